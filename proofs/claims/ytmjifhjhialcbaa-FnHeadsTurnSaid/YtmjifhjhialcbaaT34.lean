/- Parts of my texts: TwoI3. -/
import Derived.Test.YtmjifhjhialcbaaT31
import Derived.Test.YtmjifhjhialcbaaT32
namespace Go.Proofs.Ytmjifhjhialcbaa
set_option maxRecDepth 100000
set_option linter.unusedVariables false
open Go.RowKit
set_option maxHeartbeats 1600000 in
theorem iWithN (A : Option Addr) (n c : Nat) (xs : List Int) (w : World) (hh : Rd w w.heap.size (rowCells xs) [.slice A n c]) (hs : xs.length ≤ 1048577) (hw : (withSum xs).length = 0) :
    Calls Try.prog 14 #[.slice A n c] w fun e w' => e = .returned (.slice none 0 0) ∧ Below w.heap.size w w' := by
 obtain ⟨h, _, _⟩ := rdI hh
 have hl := jd h.1
 have hn : n ≤ 1048577 := by rw [← h.1]; exact hs
 by_cases h48 : 48 ≤ n
 · clear h
   go_enter Try.func14, Try.ntmps14
   go_wp2
   go_ret
   exact ⟨rfl, Below.refl _ _⟩
 · cases hr : rowOk xs
   · go_enter Try.func14, Try.ntmps14
     go_wp2_with fail
     refine (iRowOk_any A n c _ xs _ h hn).mono ?_
     rintro e w' ⟨rfl, rfl⟩
     rw [hr]
     go_wp2
     go_ret
     exact ⟨rfl, Below.refl _ _⟩
   · rw [withSum_yes hr (by rw [hl.out]; omega)] at hw
     simp at hw
theorem iWithY (A : Option Addr) (n c : Nat) (xs : List Int) (w : World) (hh : Rd w w.heap.size (rowCells xs) [.slice A n c]) (hs : xs.length ≤ 1048577) (hw : (withSum xs).length ≠ 0) :
    Calls Try.prog 14 #[.slice A n c] w fun e w' => ∃ A' n' c', e = .returned (.slice (some A') n' c') ∧ Has w' w.heap.size (rowCells (withSum xs)) [.slice (some A') n' c'] ∧ Below w.heap.size w w' := by
 obtain ⟨h, _, _⟩ := rdI hh
 have hn : n ≤ 1048577 := by rw [← h.1]; exact hs
 refine (iWith_any A n c xs w h hn).mono ?_
 rintro e w1 ⟨A', n', c', rfl, o, b⟩
 obtain ⟨g, rfl, _⟩ := o.at_ (by rw [← o.len]; omega)
 exact ⟨_, n', c', rfl, o.has, b⟩
set_option maxHeartbeats 12800000 in
theorem iBothWrote_any (Aa0 : Option Addr) (na0 ca0 : Nat) (Aa1 : Option Addr) (na1 ca1 : Nat) (Aa2 : Option Addr) (na2 ca2 : Nat) (Aa3 : Option Addr) (na3 ca3 : Nat) (t : TwoM) (i : Int) (E : Option Addr) (o co : Nat) (r : List Int) (w : World) (h : Rd w w.heap.size t.cells [.slice Aa0 na0 ca0, .slice Aa1 na1 ca1, .slice Aa2 na2 ca2, .slice Aa3 na3 ca3]) (hs : t.sz ≤ 1048576) (h2 : Rd w w.heap.size (rowCells r) [.slice E o co]) (hs2 : r.length ≤ 1048576) :
    Calls Try.prog 75 #[.agg #[.slice Aa0 na0 ca0, .slice Aa1 na1 ca1, .slice Aa2 na2 ca2, .slice Aa3 na3 ca3], .int .i64 i, .slice E o co] w fun e w' => ∃ A0 n0 c0 A1 n1 c1 A2 n2 c2 A3 n3 c3, e = .returned (.tuple #[.agg #[.slice A0 n0 c0, .slice A1 n1 c1, .slice A2 n2 c2, .slice A3 n3 c3], .bool (bothWrote t i r).2]) ∧ Has w' w.heap.size (bothWrote t i r).1.cells [.slice A0 n0 c0, .slice A1 n1 c1, .slice A2 n2 c2, .slice A3 n3 c3] ∧ Below w.heap.size w w' := by
 obtain ⟨ha, hb⟩ := h.halves
 have hsa : t.a.sz ≤ 1048576 := by unfold TwoM.sz at hs; omega
 have hsb : t.b.sz ≤ 1048576 := by unfold TwoM.sz at hs; omega
 obtain ⟨s, hw⟩ : ∃ s, withSum r = s := ⟨_, rfl⟩
 have hsz : s.length ≤ 1048576 := by have := withSum_len r; rw [hw] at this; omega
 cases hok : twoOk t
 case false =>
  have HR := jd (show bothWrote t i r = (zeroT, false) by simp [bothWrote, hok])
  have HT := jd hok
  clear hok hw
  have S := Sep.nil w w.heap.size
  have c := Below.refl w.heap.size w
  replace S := S.boxAt c.size (w.heap.size) rfl #[.slice Aa0 na0 ca0, .slice Aa1 na1 ca1, .slice Aa2 na2 ca2, .slice Aa3 na3 ca3] 60
  replace c := al c S
  replace S := S.boxAt c.size (w.heap.size + 1) (by simp) #[.slice none 0 0, .slice none 0 0, .slice none 0 0, .slice none 0 0] 60
  replace c := al c S
  go_enter Try.func75, Try.ntmps75
  have f0 := lk S 1 0 rfl rfl
  have f1 := lk S 1 1 rfl rfl
  have f2 := lk S 1 2 rfl rfl
  have f3 := lk S 1 3 rfl rfl
  go_wp2_with fail
  generalize (w.alloc (.cells #[.slice Aa0 na0 ca0, .slice Aa1 na1 ca1, .slice Aa2 na2 ca2, .slice Aa3 na3 ca3] 60)).alloc (.cells #[.slice none 0 0, .slice none 0 0, .slice none 0 0, .slice none 0 0] 60) = w1 at *
  refine (iTwoOk_any _ _ _ _ _ _ _ _ _ _ _ _ t _ _ (h.keep c) c.size (by omega)).mono ?_
  rintro e w2 ⟨rfl, b⟩
  replace c := c.trans (b.mono c.size)
  replace S := S.keep b
  clear b f0 f1 f2 f3
  rw [HT.out]
  have f4 := lk S 0 0 rfl rfl
  have f5 := (S.at_ 0 rfl).free 0
  have f6 := lk S 0 1 rfl rfl
  have f7 := (S.at_ 0 rfl).free 1
  have f8 := lk S 0 2 rfl rfl
  have f9 := (S.at_ 0 rfl).free 2
  have f10 := lk S 0 3 rfl rfl
  have f11 := (S.at_ 0 rfl).free 3
  replace S := S.put 0 rfl 0 (.slice none 0 0)
  replace c := st c S (by omega)
  replace S := S.put 0 rfl 1 (.slice none 0 0)
  replace c := st c S (by omega)
  replace S := S.put 0 rfl 2 (.slice none 0 0)
  replace c := st c S (by omega)
  replace S := S.put 0 rfl 3 (.slice none 0 0)
  replace c := st c S (by omega)
  have C := jd c
  clear S c h
  go_wp2
  exact bodyPost_ret (v := .tuple #[.agg #[.slice none 0 0, .slice none 0 0, .slice none 0 0, .slice none 0 0], .bool false]) (by simp [results, Try.results75, go_sem, f4, f6, f8, f10]) rfl ⟨_, _, _, _, _, _, _, _, _, _, _, _, by rw [HR.out], by rw [HR.out]; exact has_zeroT _ _, C.out⟩
 have HW := jd hw
 by_cases hl : s.length = 0
 case pos =>
  have HR := jd (show bothWrote t i r = (t, false) by simp [bothWrote, hok, hw, List.eq_nil_of_length_eq_zero hl])
  have HT := jd hok
  have HN := jd (show (withSum r).length = 0 by rw [hw]; exact hl)
  clear hok hw
  have S := Sep.nil w w.heap.size
  have c := Below.refl w.heap.size w
  replace S := S.boxAt c.size (w.heap.size) rfl #[.slice Aa0 na0 ca0, .slice Aa1 na1 ca1, .slice Aa2 na2 ca2, .slice Aa3 na3 ca3] 60
  replace c := al c S
  replace S := S.boxAt c.size (w.heap.size + 1) (by simp) #[.slice none 0 0, .slice none 0 0, .slice none 0 0, .slice none 0 0] 60
  replace c := al c S
  go_enter Try.func75, Try.ntmps75
  have f0 := lk S 1 0 rfl rfl
  have f1 := lk S 1 1 rfl rfl
  have f2 := lk S 1 2 rfl rfl
  have f3 := lk S 1 3 rfl rfl
  go_wp2_with fail
  generalize (w.alloc (.cells #[.slice Aa0 na0 ca0, .slice Aa1 na1 ca1, .slice Aa2 na2 ca2, .slice Aa3 na3 ca3] 60)).alloc (.cells #[.slice none 0 0, .slice none 0 0, .slice none 0 0, .slice none 0 0] 60) = w1 at *
  refine (iTwoOk_any _ _ _ _ _ _ _ _ _ _ _ _ t _ _ (h.keep c) c.size (by omega)).mono ?_
  rintro e w2 ⟨rfl, b⟩
  replace c := c.trans (b.mono c.size)
  replace S := S.keep b
  clear b f0 f1 f2 f3
  rw [HT.out]
  go_wp2_with fail
  refine (iWithN _ _ _ r _ ((h2.keep c).up c.size) (by omega) HN.out).mono ?_
  rintro e w3 ⟨rfl, b⟩
  replace c := c.trans (b.mono c.size)
  replace S := S.keep b
  clear b
  have hnil : ∀ w9, Sem.run Try.prog (binOp BinOp.eql 30 (.slice none 0 0) (.slice none 0 0)) w9 = .ok (.bool true) w9 := fun _ => by kernel_rfl
  have f4 := lk S 1 0 rfl rfl
  have f5 := lk S 1 1 rfl rfl
  have f6 := lk S 1 2 rfl rfl
  have f7 := lk S 1 3 rfl rfl
  go_wp2_with fail
  refine (iCopyT_any _ _ _ _ _ _ _ _ _ _ _ _ t _ ((h.keep c).up c.size) hs).mono ?_
  rintro e w4 ⟨Az0, nz0, cz0, Az1, nz1, cz1, Az2, nz2, cz2, Az3, nz3, cz3, rfl, o, b⟩
  obtain ⟨fp_z, S'⟩ := S.has b o c.size
  replace c := c.trans (b.mono c.size)
  clear S; have S := S'; clear S' o b f4 f5 f6 f7
  have f8 := lk S 1 0 rfl rfl
  have f9 := (S.at_ 1 rfl).free 0
  have f10 := lk S 1 1 rfl rfl
  have f11 := (S.at_ 1 rfl).free 1
  have f12 := lk S 1 2 rfl rfl
  have f13 := (S.at_ 1 rfl).free 2
  have f14 := lk S 1 3 rfl rfl
  have f15 := (S.at_ 1 rfl).free 3
  replace S := S.put 1 rfl 0 (.slice Az0 nz0 cz0)
  replace c := st c S (by omega)
  replace S := S.put 1 rfl 1 (.slice Az1 nz1 cz1)
  replace c := st c S (by omega)
  replace S := S.put 1 rfl 2 (.slice Az2 nz2 cz2)
  replace c := st c S (by omega)
  replace S := S.put 1 rfl 3 (.slice Az3 nz3 cz3)
  replace c := st c S (by omega)
  have H := jd S.first
  have C := jd c
  clear S c h ha hb
  go_wp2
  exact bodyPost_ret (v := .tuple #[.agg #[.slice Az0 nz0 cz0, .slice Az1 nz1 cz1, .slice Az2 nz2 cz2, .slice Az3 nz3 cz3], .bool false]) (by simp [results, Try.results75, go_sem, f8, f10, f12, f14]) rfl ⟨_, _, _, _, _, _, _, _, _, _, _, _, by rw [HR.out], by rw [HR.out]; exact H.out, C.out⟩
 have HN := jd (show (withSum r).length ≠ 0 by rw [hw]; exact hl)
 cases h1 : (wrote t.a i s).2
 case false =>
  have HR := jd (show bothWrote t i r = (t, false) by simp [bothWrote, hok, hw, h1])
  have HT := jd hok
  have H1 := jd h1
  clear hok hw h1
  have S := Sep.nil w w.heap.size
  have c := Below.refl w.heap.size w
  replace S := S.boxAt c.size (w.heap.size) rfl #[.slice Aa0 na0 ca0, .slice Aa1 na1 ca1, .slice Aa2 na2 ca2, .slice Aa3 na3 ca3] 60
  replace c := al c S
  replace S := S.boxAt c.size (w.heap.size + 1) (by simp) #[.slice none 0 0, .slice none 0 0, .slice none 0 0, .slice none 0 0] 60
  replace c := al c S
  go_enter Try.func75, Try.ntmps75
  have f0 := lk S 1 0 rfl rfl
  have f1 := lk S 1 1 rfl rfl
  have f2 := lk S 1 2 rfl rfl
  have f3 := lk S 1 3 rfl rfl
  go_wp2_with fail
  generalize (w.alloc (.cells #[.slice Aa0 na0 ca0, .slice Aa1 na1 ca1, .slice Aa2 na2 ca2, .slice Aa3 na3 ca3] 60)).alloc (.cells #[.slice none 0 0, .slice none 0 0, .slice none 0 0, .slice none 0 0] 60) = w1 at *
  refine (iTwoOk_any _ _ _ _ _ _ _ _ _ _ _ _ t _ _ (h.keep c) c.size (by omega)).mono ?_
  rintro e w2 ⟨rfl, b⟩
  replace c := c.trans (b.mono c.size)
  replace S := S.keep b
  clear b f0 f1 f2 f3
  rw [HT.out]
  go_wp2_with fail
  refine (iWithY _ _ _ r _ ((h2.keep c).up c.size) (by omega) HN.out).mono ?_
  rintro e w3 ⟨As0, ns0, cs0, rfl, o, b⟩
  obtain ⟨fp_s, S'⟩ := S.has b o c.size
  replace c := c.trans (b.mono c.size)
  clear S; have S := S'; clear S' o b
  rw [HW.out] at S
  have hnil : ∀ w9, Sem.run Try.prog (binOp BinOp.eql 30 (.slice (some As0) ns0 cs0) (.slice none 0 0)) w9 = .ok (.bool false) w9 := fun _ => by kernel_rfl
  have hix0 : ∀ w9, (Instr.index 97 (.agg #[.slice Aa0 na0 ca0, .slice Aa1 na1 ca1, .slice Aa2 na2 ca2, .slice Aa3 na3 ca3]) (.int .i64 0)).run Try.prog w9 = .ok (.agg #[.slice Aa0 na0 ca0, .slice Aa1 na1 ca1]) w9 := fun _ => by kernel_rfl
  have hix1 : ∀ w9, (Instr.index 97 (.agg #[.slice Aa0 na0 ca0, .slice Aa1 na1 ca1, .slice Aa2 na2 ca2, .slice Aa3 na3 ca3]) (.int .i64 1)).run Try.prog w9 = .ok (.agg #[.slice Aa2 na2 ca2, .slice Aa3 na3 ca3]) w9 := fun _ => by kernel_rfl
  have f4 := lk S 2 0 rfl rfl
  have f5 := lk S 2 1 rfl rfl
  have f6 := lk S 2 2 rfl rfl
  have f7 := lk S 2 3 rfl rfl
  go_wp2_with fail
  refine (iDisks_any _ _ _ _ _ _ _ _ _ _ _ _ _).mono ?_
  rintro e w4 ⟨rfl, b⟩
  replace c := c.trans (b.mono c.size)
  replace S := S.keep b
  clear b f4 f5 f6 f7
  replace S := S.boxAt c.size (w4.heap.size) rfl #[.slice Aa0 na0 ca0, .slice Aa1 na1 ca1, .slice Aa2 na2 ca2, .slice Aa3 na3 ca3] 97
  replace c := al c S
  have f8 := lk S 0 0 rfl rfl
  have f9 := lk S 0 1 rfl rfl
  have f10 := lk S 0 2 rfl rfl
  have f11 := lk S 0 3 rfl rfl
  go_wp2
  refine wp_loop_rounds 3 ?_
  rw [rounds_succ]
  generalize w4.alloc (.cells #[.slice Aa0 na0 ca0, .slice Aa1 na1 ca1, .slice Aa2 na2 ca2, .slice Aa3 na3 ca3] 97) = w5 at *
  clear f8 f9 f10 f11
  replace S := S.boxAt c.size (w5.heap.size) rfl #[.slice Aa0 na0 ca0, .slice Aa1 na1 ca1] 44
  replace c := al c S
  have f12 := lk S 0 0 rfl rfl
  have f13 := lk S 0 1 rfl rfl
  go_wp2_with fail
  generalize w5.alloc (.cells #[.slice Aa0 na0 ca0, .slice Aa1 na1 ca1] 44) = w6 at *
  refine (iWrote_any _ _ _ _ _ _ t.a i _ _ _ s _ ((ha.keep c).up c.size) hsa ((S.own_ 2 rfl).rd) hsz).mono ?_
  rintro e w7 ⟨Au0, nu0, cu0, Au1, nu1, cu1, rfl, o, b⟩
  obtain ⟨fp_u, S'⟩ := S.has b o c.size
  replace c := c.trans (b.mono c.size)
  clear S; have S := S'; clear S' o b f12 f13
  rw [H1.out]
  replace S := S.boxAt c.size (w7.heap.size) rfl #[.slice Au0 nu0 cu0, .slice Au1 nu1 cu1] 44
  replace c := al c S
  have f14 := lk S 6 0 rfl rfl
  have f15 := lk S 6 1 rfl rfl
  have f16 := lk S 6 2 rfl rfl
  have f17 := lk S 6 3 rfl rfl
  go_wp2_with fail
  generalize w7.alloc (.cells #[.slice Au0 nu0 cu0, .slice Au1 nu1 cu1] 44) = w8 at *
  refine (iCopyT_any _ _ _ _ _ _ _ _ _ _ _ _ t _ ((h.keep c).up c.size) hs).mono ?_
  rintro e w9 ⟨Az0, nz0, cz0, Az1, nz1, cz1, Az2, nz2, cz2, Az3, nz3, cz3, rfl, o, b⟩
  obtain ⟨fp_z, S'⟩ := S.has b o c.size
  replace c := c.trans (b.mono c.size)
  clear S; have S := S'; clear S' o b f14 f15 f16 f17
  have f18 := lk S 6 0 rfl rfl
  have f19 := (S.at_ 6 rfl).free 0
  have f20 := lk S 6 1 rfl rfl
  have f21 := (S.at_ 6 rfl).free 1
  have f22 := lk S 6 2 rfl rfl
  have f23 := (S.at_ 6 rfl).free 2
  have f24 := lk S 6 3 rfl rfl
  have f25 := (S.at_ 6 rfl).free 3
  replace S := S.put 6 rfl 0 (.slice Az0 nz0 cz0)
  replace c := st c S (by omega)
  replace S := S.put 6 rfl 1 (.slice Az1 nz1 cz1)
  replace c := st c S (by omega)
  replace S := S.put 6 rfl 2 (.slice Az2 nz2 cz2)
  replace c := st c S (by omega)
  replace S := S.put 6 rfl 3 (.slice Az3 nz3 cz3)
  replace c := st c S (by omega)
  have H := jd S.first
  have C := jd c
  clear S c h ha hb
  go_wp2
  exact bodyPost_ret (v := .tuple #[.agg #[.slice Az0 nz0 cz0, .slice Az1 nz1 cz1, .slice Az2 nz2 cz2, .slice Az3 nz3 cz3], .bool false]) (by simp [results, Try.results75, go_sem, f18, f20, f22, f24]) rfl ⟨_, _, _, _, _, _, _, _, _, _, _, _, by rw [HR.out], by rw [HR.out]; exact H.out, C.out⟩
 have H1 := jd h1
 cases h9 : (wrote t.b i s).2
 case false =>
  have HR := jd (show bothWrote t i r = (t, false) by simp [bothWrote, hok, hw, h9])
  have HT := jd hok
  have H2 := jd h9
  clear hok hw h1 h9
  have S := Sep.nil w w.heap.size
  have c := Below.refl w.heap.size w
  replace S := S.boxAt c.size (w.heap.size) rfl #[.slice Aa0 na0 ca0, .slice Aa1 na1 ca1, .slice Aa2 na2 ca2, .slice Aa3 na3 ca3] 60
  replace c := al c S
  replace S := S.boxAt c.size (w.heap.size + 1) (by simp) #[.slice none 0 0, .slice none 0 0, .slice none 0 0, .slice none 0 0] 60
  replace c := al c S
  go_enter Try.func75, Try.ntmps75
  have f0 := lk S 1 0 rfl rfl
  have f1 := lk S 1 1 rfl rfl
  have f2 := lk S 1 2 rfl rfl
  have f3 := lk S 1 3 rfl rfl
  go_wp2_with fail
  generalize (w.alloc (.cells #[.slice Aa0 na0 ca0, .slice Aa1 na1 ca1, .slice Aa2 na2 ca2, .slice Aa3 na3 ca3] 60)).alloc (.cells #[.slice none 0 0, .slice none 0 0, .slice none 0 0, .slice none 0 0] 60) = w1 at *
  refine (iTwoOk_any _ _ _ _ _ _ _ _ _ _ _ _ t _ _ (h.keep c) c.size (by omega)).mono ?_
  rintro e w2 ⟨rfl, b⟩
  replace c := c.trans (b.mono c.size)
  replace S := S.keep b
  clear b f0 f1 f2 f3
  rw [HT.out]
  go_wp2_with fail
  refine (iWithY _ _ _ r _ ((h2.keep c).up c.size) (by omega) HN.out).mono ?_
  rintro e w3 ⟨As0, ns0, cs0, rfl, o, b⟩
  obtain ⟨fp_s, S'⟩ := S.has b o c.size
  replace c := c.trans (b.mono c.size)
  clear S; have S := S'; clear S' o b
  rw [HW.out] at S
  have hnil : ∀ w9, Sem.run Try.prog (binOp BinOp.eql 30 (.slice (some As0) ns0 cs0) (.slice none 0 0)) w9 = .ok (.bool false) w9 := fun _ => by kernel_rfl
  have hix0 : ∀ w9, (Instr.index 97 (.agg #[.slice Aa0 na0 ca0, .slice Aa1 na1 ca1, .slice Aa2 na2 ca2, .slice Aa3 na3 ca3]) (.int .i64 0)).run Try.prog w9 = .ok (.agg #[.slice Aa0 na0 ca0, .slice Aa1 na1 ca1]) w9 := fun _ => by kernel_rfl
  have hix1 : ∀ w9, (Instr.index 97 (.agg #[.slice Aa0 na0 ca0, .slice Aa1 na1 ca1, .slice Aa2 na2 ca2, .slice Aa3 na3 ca3]) (.int .i64 1)).run Try.prog w9 = .ok (.agg #[.slice Aa2 na2 ca2, .slice Aa3 na3 ca3]) w9 := fun _ => by kernel_rfl
  have f4 := lk S 2 0 rfl rfl
  have f5 := lk S 2 1 rfl rfl
  have f6 := lk S 2 2 rfl rfl
  have f7 := lk S 2 3 rfl rfl
  go_wp2_with fail
  refine (iDisks_any _ _ _ _ _ _ _ _ _ _ _ _ _).mono ?_
  rintro e w4 ⟨rfl, b⟩
  replace c := c.trans (b.mono c.size)
  replace S := S.keep b
  clear b f4 f5 f6 f7
  replace S := S.boxAt c.size (w4.heap.size) rfl #[.slice Aa0 na0 ca0, .slice Aa1 na1 ca1, .slice Aa2 na2 ca2, .slice Aa3 na3 ca3] 97
  replace c := al c S
  have f8 := lk S 0 0 rfl rfl
  have f9 := lk S 0 1 rfl rfl
  have f10 := lk S 0 2 rfl rfl
  have f11 := lk S 0 3 rfl rfl
  go_wp2
  refine wp_loop_rounds 3 ?_
  rw [rounds_succ]
  generalize w4.alloc (.cells #[.slice Aa0 na0 ca0, .slice Aa1 na1 ca1, .slice Aa2 na2 ca2, .slice Aa3 na3 ca3] 97) = w5 at *
  clear f8 f9 f10 f11
  replace S := S.boxAt c.size (w5.heap.size) rfl #[.slice Aa0 na0 ca0, .slice Aa1 na1 ca1] 44
  replace c := al c S
  have f12 := lk S 0 0 rfl rfl
  have f13 := lk S 0 1 rfl rfl
  go_wp2_with fail
  generalize w5.alloc (.cells #[.slice Aa0 na0 ca0, .slice Aa1 na1 ca1] 44) = w6 at *
  refine (iWrote_any _ _ _ _ _ _ t.a i _ _ _ s _ ((ha.keep c).up c.size) hsa ((S.own_ 2 rfl).rd) hsz).mono ?_
  rintro e w7 ⟨Au0, nu0, cu0, Au1, nu1, cu1, rfl, o, b⟩
  obtain ⟨fp_u, S'⟩ := S.has b o c.size
  replace c := c.trans (b.mono c.size)
  clear S; have S := S'; clear S' o b f12 f13
  rw [H1.out]
  replace S := S.boxAt c.size (w7.heap.size) rfl #[.slice Au0 nu0 cu0, .slice Au1 nu1 cu1] 44
  replace c := al c S
  have f14 := lk S 0 0 rfl rfl
  have f15 := lk S 0 1 rfl rfl
  have f16 := lk S 3 0 rfl rfl
  have f17 := (S.at_ 3 rfl).free 0
  have f18 := lk S 3 1 rfl rfl
  have f19 := (S.at_ 3 rfl).free 1
  replace S := S.put 3 rfl 0 (.slice Au0 nu0 cu0)
  replace c := st c S (S.base_le 3 rfl)
  replace S := S.put 3 rfl 1 (.slice Au1 nu1 cu1)
  replace c := st c S (S.base_le 3 rfl)
  go_wp2
  rw [rounds_succ]
  generalize ((w7.alloc (.cells #[.slice Au0 nu0 cu0, .slice Au1 nu1 cu1] 44)).setCell ⟨w4.heap.size, 0, none⟩ (.slice Au0 nu0 cu0)).setCell ⟨w4.heap.size, 1, none⟩ (.slice Au1 nu1 cu1) = w8 at *
  clear f14 f15 f16 f17 f18 f19
  replace S := S.boxAt c.size (w8.heap.size) rfl #[.slice Aa2 na2 ca2, .slice Aa3 na3 ca3] 44
  replace c := al c S
  have f20 := lk S 0 0 rfl rfl
  have f21 := lk S 0 1 rfl rfl
  go_wp2_with fail
  generalize w8.alloc (.cells #[.slice Aa2 na2 ca2, .slice Aa3 na3 ca3] 44) = w9 at *
  refine (iWrote_any _ _ _ _ _ _ t.b i _ _ _ s _ ((hb.keep c).up c.size) hsb ((S.own_ 5 rfl).rd) hsz).mono ?_
  rintro e w10 ⟨Ay0, ny0, cy0, Ay1, ny1, cy1, rfl, o, b⟩
  obtain ⟨fp_y, S'⟩ := S.has b o c.size
  replace c := c.trans (b.mono c.size)
  clear S; have S := S'; clear S' o b f20 f21
  rw [H2.out]
  replace S := S.boxAt c.size (w10.heap.size) rfl #[.slice Ay0 ny0 cy0, .slice Ay1 ny1 cy1] 44
  replace c := al c S
  have f22 := lk S 9 0 rfl rfl
  have f23 := lk S 9 1 rfl rfl
  have f24 := lk S 9 2 rfl rfl
  have f25 := lk S 9 3 rfl rfl
  go_wp2_with fail
  generalize w10.alloc (.cells #[.slice Ay0 ny0 cy0, .slice Ay1 ny1 cy1] 44) = w11 at *
  refine (iCopyT_any _ _ _ _ _ _ _ _ _ _ _ _ t _ ((h.keep c).up c.size) hs).mono ?_
  rintro e w12 ⟨Az0, nz0, cz0, Az1, nz1, cz1, Az2, nz2, cz2, Az3, nz3, cz3, rfl, o, b⟩
  obtain ⟨fp_z, S'⟩ := S.has b o c.size
  replace c := c.trans (b.mono c.size)
  clear S; have S := S'; clear S' o b f22 f23 f24 f25
  have f26 := lk S 9 0 rfl rfl
  have f27 := (S.at_ 9 rfl).free 0
  have f28 := lk S 9 1 rfl rfl
  have f29 := (S.at_ 9 rfl).free 1
  have f30 := lk S 9 2 rfl rfl
  have f31 := (S.at_ 9 rfl).free 2
  have f32 := lk S 9 3 rfl rfl
  have f33 := (S.at_ 9 rfl).free 3
  replace S := S.put 9 rfl 0 (.slice Az0 nz0 cz0)
  replace c := st c S (by omega)
  replace S := S.put 9 rfl 1 (.slice Az1 nz1 cz1)
  replace c := st c S (by omega)
  replace S := S.put 9 rfl 2 (.slice Az2 nz2 cz2)
  replace c := st c S (by omega)
  replace S := S.put 9 rfl 3 (.slice Az3 nz3 cz3)
  replace c := st c S (by omega)
  have H := jd S.first
  have C := jd c
  clear S c h ha hb
  go_wp2
  exact bodyPost_ret (v := .tuple #[.agg #[.slice Az0 nz0 cz0, .slice Az1 nz1 cz1, .slice Az2 nz2 cz2, .slice Az3 nz3 cz3], .bool false]) (by simp [results, Try.results75, go_sem, f26, f28, f30, f32]) rfl ⟨_, _, _, _, _, _, _, _, _, _, _, _, by rw [HR.out], by rw [HR.out]; exact H.out, C.out⟩
 have HR := jd (show bothWrote t i r = (⟨(wrote t.a i s).1, (wrote t.b i s).1⟩, true) by
  unfold bothWrote
  rw [if_pos hok, hw, if_pos ⟨hl, h1, h9⟩])
 have HT := jd hok
 have H2 := jd h9
 clear hok hw h1 h9
 have S := Sep.nil w w.heap.size
 have c := Below.refl w.heap.size w
 replace S := S.boxAt c.size (w.heap.size) rfl #[.slice Aa0 na0 ca0, .slice Aa1 na1 ca1, .slice Aa2 na2 ca2, .slice Aa3 na3 ca3] 60
 replace c := al c S
 replace S := S.boxAt c.size (w.heap.size + 1) (by simp) #[.slice none 0 0, .slice none 0 0, .slice none 0 0, .slice none 0 0] 60
 replace c := al c S
 go_enter Try.func75, Try.ntmps75
 have f0 := lk S 1 0 rfl rfl
 have f1 := lk S 1 1 rfl rfl
 have f2 := lk S 1 2 rfl rfl
 have f3 := lk S 1 3 rfl rfl
 go_wp2_with fail
 generalize (w.alloc (.cells #[.slice Aa0 na0 ca0, .slice Aa1 na1 ca1, .slice Aa2 na2 ca2, .slice Aa3 na3 ca3] 60)).alloc (.cells #[.slice none 0 0, .slice none 0 0, .slice none 0 0, .slice none 0 0] 60) = w1 at *
 refine (iTwoOk_any _ _ _ _ _ _ _ _ _ _ _ _ t _ _ (h.keep c) c.size (by omega)).mono ?_
 rintro e w2 ⟨rfl, b⟩
 replace c := c.trans (b.mono c.size)
 replace S := S.keep b
 clear b f0 f1 f2 f3
 rw [HT.out]
 go_wp2_with fail
 refine (iWithY _ _ _ r _ ((h2.keep c).up c.size) (by omega) HN.out).mono ?_
 rintro e w3 ⟨As0, ns0, cs0, rfl, o, b⟩
 obtain ⟨fp_s, S'⟩ := S.has b o c.size
 replace c := c.trans (b.mono c.size)
 clear S; have S := S'; clear S' o b
 rw [HW.out] at S
 have hnil : ∀ w9, Sem.run Try.prog (binOp BinOp.eql 30 (.slice (some As0) ns0 cs0) (.slice none 0 0)) w9 = .ok (.bool false) w9 := fun _ => by kernel_rfl
 have hix0 : ∀ w9, (Instr.index 97 (.agg #[.slice Aa0 na0 ca0, .slice Aa1 na1 ca1, .slice Aa2 na2 ca2, .slice Aa3 na3 ca3]) (.int .i64 0)).run Try.prog w9 = .ok (.agg #[.slice Aa0 na0 ca0, .slice Aa1 na1 ca1]) w9 := fun _ => by kernel_rfl
 have hix1 : ∀ w9, (Instr.index 97 (.agg #[.slice Aa0 na0 ca0, .slice Aa1 na1 ca1, .slice Aa2 na2 ca2, .slice Aa3 na3 ca3]) (.int .i64 1)).run Try.prog w9 = .ok (.agg #[.slice Aa2 na2 ca2, .slice Aa3 na3 ca3]) w9 := fun _ => by kernel_rfl
 have f4 := lk S 2 0 rfl rfl
 have f5 := lk S 2 1 rfl rfl
 have f6 := lk S 2 2 rfl rfl
 have f7 := lk S 2 3 rfl rfl
 go_wp2_with fail
 refine (iDisks_any _ _ _ _ _ _ _ _ _ _ _ _ _).mono ?_
 rintro e w4 ⟨rfl, b⟩
 replace c := c.trans (b.mono c.size)
 replace S := S.keep b
 clear b f4 f5 f6 f7
 replace S := S.boxAt c.size (w4.heap.size) rfl #[.slice Aa0 na0 ca0, .slice Aa1 na1 ca1, .slice Aa2 na2 ca2, .slice Aa3 na3 ca3] 97
 replace c := al c S
 have f8 := lk S 0 0 rfl rfl
 have f9 := lk S 0 1 rfl rfl
 have f10 := lk S 0 2 rfl rfl
 have f11 := lk S 0 3 rfl rfl
 go_wp2
 refine wp_loop_rounds 3 ?_
 rw [rounds_succ]
 generalize w4.alloc (.cells #[.slice Aa0 na0 ca0, .slice Aa1 na1 ca1, .slice Aa2 na2 ca2, .slice Aa3 na3 ca3] 97) = w5 at *
 clear f8 f9 f10 f11
 replace S := S.boxAt c.size (w5.heap.size) rfl #[.slice Aa0 na0 ca0, .slice Aa1 na1 ca1] 44
 replace c := al c S
 have f12 := lk S 0 0 rfl rfl
 have f13 := lk S 0 1 rfl rfl
 go_wp2_with fail
 generalize w5.alloc (.cells #[.slice Aa0 na0 ca0, .slice Aa1 na1 ca1] 44) = w6 at *
 refine (iWrote_any _ _ _ _ _ _ t.a i _ _ _ s _ ((ha.keep c).up c.size) hsa ((S.own_ 2 rfl).rd) hsz).mono ?_
 rintro e w7 ⟨Au0, nu0, cu0, Au1, nu1, cu1, rfl, o, b⟩
 obtain ⟨fp_u, S'⟩ := S.has b o c.size
 replace c := c.trans (b.mono c.size)
 clear S; have S := S'; clear S' o b f12 f13
 rw [H1.out]
 replace S := S.boxAt c.size (w7.heap.size) rfl #[.slice Au0 nu0 cu0, .slice Au1 nu1 cu1] 44
 replace c := al c S
 have f14 := lk S 0 0 rfl rfl
 have f15 := lk S 0 1 rfl rfl
 have f16 := lk S 3 0 rfl rfl
 have f17 := (S.at_ 3 rfl).free 0
 have f18 := lk S 3 1 rfl rfl
 have f19 := (S.at_ 3 rfl).free 1
 replace S := S.put 3 rfl 0 (.slice Au0 nu0 cu0)
 replace c := st c S (S.base_le 3 rfl)
 replace S := S.put 3 rfl 1 (.slice Au1 nu1 cu1)
 replace c := st c S (S.base_le 3 rfl)
 go_wp2
 rw [rounds_succ]
 generalize ((w7.alloc (.cells #[.slice Au0 nu0 cu0, .slice Au1 nu1 cu1] 44)).setCell ⟨w4.heap.size, 0, none⟩ (.slice Au0 nu0 cu0)).setCell ⟨w4.heap.size, 1, none⟩ (.slice Au1 nu1 cu1) = w8 at *
 clear f14 f15 f16 f17 f18 f19
 replace S := S.boxAt c.size (w8.heap.size) rfl #[.slice Aa2 na2 ca2, .slice Aa3 na3 ca3] 44
 replace c := al c S
 have f20 := lk S 0 0 rfl rfl
 have f21 := lk S 0 1 rfl rfl
 go_wp2_with fail
 generalize w8.alloc (.cells #[.slice Aa2 na2 ca2, .slice Aa3 na3 ca3] 44) = w9 at *
 refine (iWrote_any _ _ _ _ _ _ t.b i _ _ _ s _ ((hb.keep c).up c.size) hsb ((S.own_ 5 rfl).rd) hsz).mono ?_
 rintro e w10 ⟨Ay0, ny0, cy0, Ay1, ny1, cy1, rfl, o, b⟩
 obtain ⟨fp_y, S'⟩ := S.has b o c.size
 replace c := c.trans (b.mono c.size)
 clear S; have S := S'; clear S' o b f20 f21
 rw [H2.out]
 replace S := S.boxAt c.size (w10.heap.size) rfl #[.slice Ay0 ny0 cy0, .slice Ay1 ny1 cy1] 44
 replace c := al c S
 have f22 := lk S 0 0 rfl rfl
 have f23 := lk S 0 1 rfl rfl
 have f24 := lk S 6 2 rfl rfl
 have f25 := (S.at_ 6 rfl).free 2
 have f26 := lk S 6 3 rfl rfl
 have f27 := (S.at_ 6 rfl).free 3
 replace S := S.put 6 rfl 2 (.slice Ay0 ny0 cy0)
 replace c := st c S (S.base_le 6 rfl)
 replace S := S.put 6 rfl 3 (.slice Ay1 ny1 cy1)
 replace c := st c S (S.base_le 6 rfl)
 go_wp2
 rw [rounds_succ]
 generalize ((w10.alloc (.cells #[.slice Ay0 ny0 cy0, .slice Ay1 ny1 cy1] 44)).setCell ⟨w4.heap.size, 2, none⟩ (.slice Ay0 ny0 cy0)).setCell ⟨w4.heap.size, 3, none⟩ (.slice Ay1 ny1 cy1) = w11 at *
 clear f22 f23 f24 f25 f26 f27
 have f28 := lk S 6 0 rfl rfl
 have f29 := lk S 6 1 rfl rfl
 have f30 := lk S 6 2 rfl rfl
 have f31 := lk S 6 3 rfl rfl
 go_wp2_with fail
 refine (iTwoOf_any _ _ _ _ _ _ _ _ _ _ _ _ _).mono ?_
 rintro e w12 ⟨rfl, b⟩
 replace c := c.trans (b.mono c.size)
 replace S := S.keep b
 clear b f28 f29 f30 f31
 have f32 := lk S 8 0 rfl rfl
 have f33 := (S.at_ 8 rfl).free 0
 have f34 := lk S 8 1 rfl rfl
 have f35 := (S.at_ 8 rfl).free 1
 have f36 := lk S 8 2 rfl rfl
 have f37 := (S.at_ 8 rfl).free 2
 have f38 := lk S 8 3 rfl rfl
 have f39 := (S.at_ 8 rfl).free 3
 replace S := S.put 8 rfl 0 (.slice Au0 nu0 cu0)
 replace c := st c S (by omega)
 replace S := S.put 8 rfl 1 (.slice Au1 nu1 cu1)
 replace c := st c S (by omega)
 replace S := S.put 8 rfl 2 (.slice Ay0 ny0 cy0)
 replace c := st c S (by omega)
 replace S := S.put 8 rfl 3 (.slice Ay1 ny1 cy1)
 replace c := st c S (by omega)
 replace S := S.sub (.cons _ (.cons_cons _ (.cons _ (.cons _ (.cons_cons _ (List.nil_sublist _))))))
 have H := jd S.pair
 have C := jd c
 clear S c h ha hb
 go_wp2
 exact bodyPost_ret (v := .tuple #[.agg #[.slice Au0 nu0 cu0, .slice Au1 nu1 cu1, .slice Ay0 ny0 cy0, .slice Ay1 ny1 cy1], .bool true]) (by simp [results, Try.results75, go_sem, f32, f34, f36, f38]) rfl ⟨_, _, _, _, _, _, _, _, _, _, _, _, by rw [HR.out], by rw [HR.out]; exact H.out, C.out⟩
set_option maxHeartbeats 12800000 in
theorem iMendedAt_any (Aa0 : Option Addr) (na0 ca0 : Nat) (Aa1 : Option Addr) (na1 ca1 : Nat) (Aa2 : Option Addr) (na2 ca2 : Nat) (Aa3 : Option Addr) (na3 ca3 : Nat) (t : TwoM) (i : Int) (E : Option Addr) (o co : Nat) (r : List Int) (w : World) (h : Rd w w.heap.size t.cells [.slice Aa0 na0 ca0, .slice Aa1 na1 ca1, .slice Aa2 na2 ca2, .slice Aa3 na3 ca3]) (hs : t.sz ≤ 1048576) (h2 : Rd w w.heap.size (rowCells r) [.slice E o co]) (hs2 : r.length ≤ 1048576) :
    Calls Try.prog 50 #[.agg #[.slice Aa0 na0 ca0, .slice Aa1 na1 ca1, .slice Aa2 na2 ca2, .slice Aa3 na3 ca3], .int .i64 i, .slice E o co] w (MadeT w (mendedAt t i r)) := by
 cases hb : (bothWrote t i r).2
 case false =>
  have HR := jd (show mendedAt t i r = (bothWrote t i r).1 by simp [mendedAt, hb])
  have HB := jd hb
  clear hb
  have S := Sep.nil w w.heap.size
  have c := Below.refl w.heap.size w
  replace S := S.boxAt c.size (w.heap.size) rfl #[.slice Aa0 na0 ca0, .slice Aa1 na1 ca1, .slice Aa2 na2 ca2, .slice Aa3 na3 ca3] 60
  replace c := al c S
  replace S := S.boxAt c.size (w.heap.size + 1) (by simp) #[.slice none 0 0, .slice none 0 0, .slice none 0 0, .slice none 0 0] 60
  replace c := al c S
  go_enter Try.func50, Try.ntmps50
  have f0 := lk S 1 0 rfl rfl
  have f1 := lk S 1 1 rfl rfl
  have f2 := lk S 1 2 rfl rfl
  have f3 := lk S 1 3 rfl rfl
  go_wp2_with fail
  generalize (w.alloc (.cells #[.slice Aa0 na0 ca0, .slice Aa1 na1 ca1, .slice Aa2 na2 ca2, .slice Aa3 na3 ca3] 60)).alloc (.cells #[.slice none 0 0, .slice none 0 0, .slice none 0 0, .slice none 0 0] 60) = w1 at *
  refine (iBothWrote_any _ _ _ _ _ _ _ _ _ _ _ _ t i _ _ _ r _ ((h.keep c).up c.size) hs ((h2.keep c).up c.size) hs2).mono ?_
  rintro e w2 ⟨Az0, nz0, cz0, Az1, nz1, cz1, Az2, nz2, cz2, Az3, nz3, cz3, rfl, o, b⟩
  obtain ⟨fp_z, S'⟩ := S.has b o c.size
  replace c := c.trans (b.mono c.size)
  clear S; have S := S'; clear S' o b f0 f1 f2 f3
  rw [HB.out]
  replace S := S.boxAt c.size (w2.heap.size) rfl #[.slice Az0 nz0 cz0, .slice Az1 nz1 cz1, .slice Az2 nz2 cz2, .slice Az3 nz3 cz3] 60
  replace c := al c S
  have f4 := lk S 0 0 rfl rfl
  have f5 := lk S 0 1 rfl rfl
  have f6 := lk S 0 2 rfl rfl
  have f7 := lk S 0 3 rfl rfl
  have f8 := lk S 2 0 rfl rfl
  have f9 := (S.at_ 2 rfl).free 0
  have f10 := lk S 2 1 rfl rfl
  have f11 := (S.at_ 2 rfl).free 1
  have f12 := lk S 2 2 rfl rfl
  have f13 := (S.at_ 2 rfl).free 2
  have f14 := lk S 2 3 rfl rfl
  have f15 := (S.at_ 2 rfl).free 3
  replace S := S.put 2 rfl 0 (.slice Az0 nz0 cz0)
  replace c := st c S (by omega)
  replace S := S.put 2 rfl 1 (.slice Az1 nz1 cz1)
  replace c := st c S (by omega)
  replace S := S.put 2 rfl 2 (.slice Az2 nz2 cz2)
  replace c := st c S (by omega)
  replace S := S.put 2 rfl 3 (.slice Az3 nz3 cz3)
  replace c := st c S (by omega)
  replace S := S.sub (.cons _ (.cons_cons _ (List.nil_sublist _)))
  have H := jd S.first
  have C := jd c
  clear S c h h2
  go_wp2
  exact bodyPost_ret (v := .agg #[.slice Az0 nz0 cz0, .slice Az1 nz1 cz1, .slice Az2 nz2 cz2, .slice Az3 nz3 cz3]) (by simp [results, Try.results50, go_sem, f8, f10, f12, f14]) rfl ⟨_, _, _, _, _, _, _, _, _, _, _, _, rfl, by rw [HR.out]; exact H.out, C.out⟩
 have HR := jd (show mendedAt t i r = bothSynced (bothWrote t i r).1 by simp [mendedAt, hb])
 have hz : (bothWrote t i r).1.sz ≤ 1048576 := by
  have := ok_two_sz (bothWrote_ok (bothWrote_true hb) i r)
  omega
 have HB := jd hb
 clear hb
 have S := Sep.nil w w.heap.size
 have c := Below.refl w.heap.size w
 replace S := S.boxAt c.size (w.heap.size) rfl #[.slice Aa0 na0 ca0, .slice Aa1 na1 ca1, .slice Aa2 na2 ca2, .slice Aa3 na3 ca3] 60
 replace c := al c S
 replace S := S.boxAt c.size (w.heap.size + 1) (by simp) #[.slice none 0 0, .slice none 0 0, .slice none 0 0, .slice none 0 0] 60
 replace c := al c S
 go_enter Try.func50, Try.ntmps50
 have f0 := lk S 1 0 rfl rfl
 have f1 := lk S 1 1 rfl rfl
 have f2 := lk S 1 2 rfl rfl
 have f3 := lk S 1 3 rfl rfl
 go_wp2_with fail
 generalize (w.alloc (.cells #[.slice Aa0 na0 ca0, .slice Aa1 na1 ca1, .slice Aa2 na2 ca2, .slice Aa3 na3 ca3] 60)).alloc (.cells #[.slice none 0 0, .slice none 0 0, .slice none 0 0, .slice none 0 0] 60) = w1 at *
 refine (iBothWrote_any _ _ _ _ _ _ _ _ _ _ _ _ t i _ _ _ r _ ((h.keep c).up c.size) hs ((h2.keep c).up c.size) hs2).mono ?_
 rintro e w2 ⟨Az0, nz0, cz0, Az1, nz1, cz1, Az2, nz2, cz2, Az3, nz3, cz3, rfl, o, b⟩
 obtain ⟨fp_z, S'⟩ := S.has b o c.size
 replace c := c.trans (b.mono c.size)
 clear S; have S := S'; clear S' o b f0 f1 f2 f3
 rw [HB.out]
 replace S := S.boxAt c.size (w2.heap.size) rfl #[.slice Az0 nz0 cz0, .slice Az1 nz1 cz1, .slice Az2 nz2 cz2, .slice Az3 nz3 cz3] 60
 replace c := al c S
 have f4 := lk S 0 0 rfl rfl
 have f5 := lk S 0 1 rfl rfl
 have f6 := lk S 0 2 rfl rfl
 have f7 := lk S 0 3 rfl rfl
 go_wp2_with fail
 generalize w2.alloc (.cells #[.slice Az0 nz0 cz0, .slice Az1 nz1 cz1, .slice Az2 nz2 cz2, .slice Az3 nz3 cz3] 60) = w3 at *
 refine (iBothSynced_any _ _ _ _ _ _ _ _ _ _ _ _ (bothWrote t i r).1 _ ((S.own_ 1 rfl).rd) hz).mono ?_
 rintro e w4 ⟨Ay0, ny0, cy0, Ay1, ny1, cy1, Ay2, ny2, cy2, Ay3, ny3, cy3, rfl, o, b⟩
 obtain ⟨fp_y, S'⟩ := S.has b o c.size
 replace c := c.trans (b.mono c.size)
 clear S; have S := S'; clear S' o b f4 f5 f6 f7
 have f8 := lk S 3 0 rfl rfl
 have f9 := (S.at_ 3 rfl).free 0
 have f10 := lk S 3 1 rfl rfl
 have f11 := (S.at_ 3 rfl).free 1
 have f12 := lk S 3 2 rfl rfl
 have f13 := (S.at_ 3 rfl).free 2
 have f14 := lk S 3 3 rfl rfl
 have f15 := (S.at_ 3 rfl).free 3
 replace S := S.put 3 rfl 0 (.slice Ay0 ny0 cy0)
 replace c := st c S (by omega)
 replace S := S.put 3 rfl 1 (.slice Ay1 ny1 cy1)
 replace c := st c S (by omega)
 replace S := S.put 3 rfl 2 (.slice Ay2 ny2 cy2)
 replace c := st c S (by omega)
 replace S := S.put 3 rfl 3 (.slice Ay3 ny3 cy3)
 replace c := st c S (by omega)
 have H := jd S.first
 have C := jd c
 clear S c h h2
 go_wp2
 exact bodyPost_ret (v := .agg #[.slice Ay0 ny0 cy0, .slice Ay1 ny1 cy1, .slice Ay2 ny2 cy2, .slice Ay3 ny3 cy3]) (by simp [results, Try.results50, go_sem, f8, f10, f12, f14]) rfl ⟨_, _, _, _, _, _, _, _, _, _, _, _, rfl, by rw [HR.out]; exact H.out, C.out⟩
end Go.Proofs.Ytmjifhjhialcbaa
