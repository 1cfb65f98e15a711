/- Parts of my texts: TwoI2 TwoE TwoI4 LawZKept. -/
import Derived.Test.YtmjifhjhialcbaaGreatL37
namespace Go.Proofs.YtmjifhjhialcbaaGreat
set_option maxRecDepth 100000
set_option linter.unusedVariables false
open Go.RowKit
theorem iFates0 (E : Option Addr) (o co : Nat) (fs : List Int) (w : World) (h : IRow w w.heap.size E o fs) (ho : o ≤ 1048577) :
    Calls Tryz.prog 55 #[.slice E o co, .int .i64 0] w (MadeRow w (second fs 0)) := iFates_any E o co fs 0 w h ho (by omega)
theorem iFates1 (E : Option Addr) (o co : Nat) (fs : List Int) (w : World) (h : IRow w w.heap.size E o fs) (ho : o ≤ 1048577) :
    Calls Tryz.prog 55 #[.slice E o co, .int .i64 1] w (MadeRow w (second fs 1)) := iFates_any E o co fs 1 w h ho (by omega)
theorem second_le2 (xs : List Int) (k : Nat) (h : xs.length ≤ 1048576) : (second xs k).length ≤ 1048576 := by rw [second_len]; omega
set_option maxHeartbeats 12800000 in
theorem iBothFallen_any (Aa0 : Option Addr) (na0 ca0 : Nat) (Aa1 : Option Addr) (na1 ca1 : Nat) (Aa2 : Option Addr) (na2 ca2 : Nat) (Aa3 : Option Addr) (na3 ca3 : Nat) (t : TwoM) (E : Option Addr) (o co : Nat) (fs : List Int) (w : World) (h : Rd w w.heap.size t.cells [.slice Aa0 na0 ca0, .slice Aa1 na1 ca1, .slice Aa2 na2 ca2, .slice Aa3 na3 ca3]) (hs : t.sz ≤ 1048576) (h2 : Rd w w.heap.size (rowCells fs) [.slice E o co]) (hs2 : fs.length ≤ 1048576) :
    Calls Tryz.prog 14 #[.agg #[.slice Aa0 na0 ca0, .slice Aa1 na1 ca1, .slice Aa2 na2 ca2, .slice Aa3 na3 ca3], .slice E o co] w (MadeT w (bothFallen t fs)) := by
 obtain ⟨ha, hb⟩ := h.halves
 have hsa : t.a.sz ≤ 1048576 := by unfold TwoM.sz at hs; omega
 have hsb : t.b.sz ≤ 1048576 := by unfold TwoM.sz at hs; omega
 obtain ⟨hi, _, _⟩ := rdI h2
 have ho : o ≤ 1048577 := by rw [← hi.1]; omega
 have hz0 := second_le2 fs 0 hs2
 have hz1 := second_le2 fs 1 hs2
 cases hok : twoOk t
 case false =>
  have HR := jd (show bothFallen t fs = zeroT by simp [bothFallen, hok])
  have HT := jd hok
  clear hok
  have S := Sep.nil w w.heap.size
  have c := Below.refl w.heap.size w
  replace S := S.boxAt c.size (w.heap.size) rfl #[.slice Aa0 na0 ca0, .slice Aa1 na1 ca1, .slice Aa2 na2 ca2, .slice Aa3 na3 ca3] 35
  replace c := al c S
  replace S := S.boxAt c.size (w.heap.size + 1) (by simp) #[.slice none 0 0, .slice none 0 0, .slice none 0 0, .slice none 0 0] 35
  replace c := al c S
  go_enter Tryz.func14, Tryz.ntmps14
  have f0 := lk S 1 0 rfl rfl
  have f1 := lk S 1 1 rfl rfl
  have f2 := lk S 1 2 rfl rfl
  have f3 := lk S 1 3 rfl rfl
  go_wp2_with fail
  generalize (w.alloc (.cells #[.slice Aa0 na0 ca0, .slice Aa1 na1 ca1, .slice Aa2 na2 ca2, .slice Aa3 na3 ca3] 35)).alloc (.cells #[.slice none 0 0, .slice none 0 0, .slice none 0 0, .slice none 0 0] 35) = w1 at *
  refine (iTwoOk_any _ _ _ _ _ _ _ _ _ _ _ _ t _ _ (h.keep c) c.size (by omega)).mono ?_
  rintro e w2 ⟨rfl, b⟩
  replace c := c.trans (b.mono c.size)
  replace S := S.keep b
  clear b f0 f1 f2 f3
  rw [HT.out]
  have f4 := lk S 0 0 rfl rfl
  have f5 := (S.at_ 0 rfl).free 0
  have f6 := lk S 0 1 rfl rfl
  have f7 := (S.at_ 0 rfl).free 1
  have f8 := lk S 0 2 rfl rfl
  have f9 := (S.at_ 0 rfl).free 2
  have f10 := lk S 0 3 rfl rfl
  have f11 := (S.at_ 0 rfl).free 3
  replace S := S.put 0 rfl 0 (.slice none 0 0)
  replace c := st c S (by omega)
  replace S := S.put 0 rfl 1 (.slice none 0 0)
  replace c := st c S (by omega)
  replace S := S.put 0 rfl 2 (.slice none 0 0)
  replace c := st c S (by omega)
  replace S := S.put 0 rfl 3 (.slice none 0 0)
  replace c := st c S (by omega)
  have C := jd c
  clear S c h
  go_wp2
  exact bodyPost_ret (v := .agg #[.slice none 0 0, .slice none 0 0, .slice none 0 0, .slice none 0 0]) (by simp [results, Tryz.results14, go_sem, f4, f6, f8, f10]) rfl ⟨_, _, _, _, _, _, _, _, _, _, _, _, rfl, by rw [HR.out]; exact has_zeroT _ _, C.out⟩
 have HR := jd (show bothFallen t fs = ⟨fallen t.a (second fs 0), fallen t.b (second fs 1)⟩ by simp [bothFallen, hok])
 have HT := jd hok
 clear hok
 have S := Sep.nil w w.heap.size
 have c := Below.refl w.heap.size w
 replace S := S.boxAt c.size (w.heap.size) rfl #[.slice Aa0 na0 ca0, .slice Aa1 na1 ca1, .slice Aa2 na2 ca2, .slice Aa3 na3 ca3] 35
 replace c := al c S
 replace S := S.boxAt c.size (w.heap.size + 1) (by simp) #[.slice none 0 0, .slice none 0 0, .slice none 0 0, .slice none 0 0] 35
 replace c := al c S
 go_enter Tryz.func14, Tryz.ntmps14
 have f0 := lk S 1 0 rfl rfl
 have f1 := lk S 1 1 rfl rfl
 have f2 := lk S 1 2 rfl rfl
 have f3 := lk S 1 3 rfl rfl
 go_wp2_with fail
 generalize (w.alloc (.cells #[.slice Aa0 na0 ca0, .slice Aa1 na1 ca1, .slice Aa2 na2 ca2, .slice Aa3 na3 ca3] 35)).alloc (.cells #[.slice none 0 0, .slice none 0 0, .slice none 0 0, .slice none 0 0] 35) = w1 at *
 refine (iTwoOk_any _ _ _ _ _ _ _ _ _ _ _ _ t _ _ (h.keep c) c.size (by omega)).mono ?_
 rintro e w2 ⟨rfl, b⟩
 replace c := c.trans (b.mono c.size)
 replace S := S.keep b
 clear b f0 f1 f2 f3
 rw [HT.out]
 have hix0 : ∀ w9, (Instr.index 97 (.agg #[.slice Aa0 na0 ca0, .slice Aa1 na1 ca1, .slice Aa2 na2 ca2, .slice Aa3 na3 ca3]) (.int .i64 0)).run Tryz.prog w9 = .ok (.agg #[.slice Aa0 na0 ca0, .slice Aa1 na1 ca1]) w9 := fun _ => by kernel_rfl
 have hix1 : ∀ w9, (Instr.index 97 (.agg #[.slice Aa0 na0 ca0, .slice Aa1 na1 ca1, .slice Aa2 na2 ca2, .slice Aa3 na3 ca3]) (.int .i64 1)).run Tryz.prog w9 = .ok (.agg #[.slice Aa2 na2 ca2, .slice Aa3 na3 ca3]) w9 := fun _ => by kernel_rfl
 have f4 := lk S 1 0 rfl rfl
 have f5 := lk S 1 1 rfl rfl
 have f6 := lk S 1 2 rfl rfl
 have f7 := lk S 1 3 rfl rfl
 go_wp2_with fail
 refine (iDisks_any _ _ _ _ _ _ _ _ _ _ _ _ _).mono ?_
 rintro e w3 ⟨rfl, b⟩
 replace c := c.trans (b.mono c.size)
 replace S := S.keep b
 clear b f4 f5 f6 f7
 replace S := S.boxAt c.size (w3.heap.size) rfl #[.slice Aa0 na0 ca0, .slice Aa1 na1 ca1, .slice Aa2 na2 ca2, .slice Aa3 na3 ca3] 97
 replace c := al c S
 have f8 := lk S 0 0 rfl rfl
 have f9 := lk S 0 1 rfl rfl
 have f10 := lk S 0 2 rfl rfl
 have f11 := lk S 0 3 rfl rfl
 go_wp2
 refine wp_loop_rounds 3 ?_
 rw [rounds_succ]
 generalize w3.alloc (.cells #[.slice Aa0 na0 ca0, .slice Aa1 na1 ca1, .slice Aa2 na2 ca2, .slice Aa3 na3 ca3] 97) = w4 at *
 clear f8 f9 f10 f11
 replace S := S.boxAt c.size (w4.heap.size) rfl #[.slice Aa0 na0 ca0, .slice Aa1 na1 ca1] 33
 replace c := al c S
 have f12 := lk S 0 0 rfl rfl
 have f13 := lk S 0 1 rfl rfl
 go_wp2_with fail
 generalize w4.alloc (.cells #[.slice Aa0 na0 ca0, .slice Aa1 na1 ca1] 33) = w5 at *
 refine wp_region_L (fun v => v.cell? ⟨w4.heap.size, 0, none⟩ = some (.slice Aa0 na0 ca0) ∧ v.cell? ⟨w4.heap.size, 1, none⟩ = some (.slice Aa1 na1 ca1)) 7 (by kernel_rfl) ?_
 clear f12 f13
 replace S := S.keep ((Below.refl _ _).drew)
 replace c := c.drew
 generalize w5.drew = w6 at *
 have HF : w6.cell? ⟨w4.heap.size, 0, none⟩ = some (.slice Aa0 na0 ca0) ∧ w6.cell? ⟨w4.heap.size, 1, none⟩ = some (.slice Aa1 na1 ca1) := ⟨(S.at_ 0 rfl).cell 0, (S.at_ 0 rfl).cell 1⟩
 refine tk 0 (v := ?_) rfl rfl HF (.inl ⟨by rfl, ?_⟩) ?_
 rotate_left 1
 · (rintro v ⟨a0, a1⟩; go_simp; try with_reducible rfl)
 try simp only [Act.put]
 refine tk 1 (v := ?_) rfl rfl HF (.inl ⟨by rfl, ?_⟩) ?_
 rotate_left 1
 · (rintro v ⟨a0, a1⟩; go_simp; try with_reducible rfl)
 try simp only [Act.put]
 refine tk 2 (v := ?_) rfl rfl HF (.inl ⟨by rfl, ?_⟩) ?_
 rotate_left 1
 · (rintro v ⟨a0, a1⟩; go_simp; try with_reducible rfl)
 try simp only [Act.put]
 refine tk 3 (v := ?_) rfl rfl HF (.inl ⟨by rfl, ?_⟩) ?_
 rotate_left 1
 · (rintro v ⟨a0, a1⟩; go_simp; try with_reducible rfl)
 try simp only [Act.put]
 refine wpAnyL_step (i := 4) (by kernel_rfl) rfl rfl ?_
 intro K hK
 go_simp
 refine (iFates0 _ _ _ fs _ ((hi.below c).up c.size) ho).mono ?_
 rintro e w7 ⟨Ap0, np0, cp0, rfl, o, b⟩
 obtain ⟨fp_p, S'⟩ := S.has b o.has c.size
 replace c := c.trans (b.mono c.size)
 clear S; have S := S'; clear S' o b
 clear HF
 have HF : w7.cell? ⟨w4.heap.size, 0, none⟩ = some (.slice Aa0 na0 ca0) ∧ w7.cell? ⟨w4.heap.size, 1, none⟩ = some (.slice Aa1 na1 ca1) := ⟨(S.at_ 1 rfl).cell 0, (S.at_ 1 rfl).cell 1⟩
 refine hK _ _ (fun _ => HF) ?_
 clear hK K
 try simp only [Act.put]
 refine wpAnyL_step (i := 5) (by kernel_rfl) rfl rfl ?_
 intro K hK
 go_simp
 refine (iFallen_any _ _ _ _ _ _ t.a _ _ _ _ _ ((ha.keep c).up c.size) hsa ((S.own_ 0 rfl).rd) hz0).mono ?_
 rintro e w8 ⟨Au0, nu0, cu0, Au1, nu1, cu1, rfl, o, b⟩
 obtain ⟨fp_u, S'⟩ := S.has b o c.size
 replace c := c.trans (b.mono c.size)
 clear S; have S := S'; clear S' o b
 clear HF
 have HF : w8.cell? ⟨w4.heap.size, 0, none⟩ = some (.slice Aa0 na0 ca0) ∧ w8.cell? ⟨w4.heap.size, 1, none⟩ = some (.slice Aa1 na1 ca1) := ⟨(S.at_ 2 rfl).cell 0, (S.at_ 2 rfl).cell 1⟩
 refine hK _ _ (fun _ => HF) ?_
 clear hK K
 try simp only [Act.put]
 refine wpAnyL_step (i := 6) (by kernel_rfl) rfl rfl ?_
 intro K hK
 go_simp
 refine hK _ _ (fun _ => HF) ?_
 clear hK K
 try simp only [Act.put]
 have f14 := lk S 3 0 rfl rfl
 have f15 := (S.at_ 3 rfl).free 0
 have f16 := lk S 3 1 rfl rfl
 have f17 := (S.at_ 3 rfl).free 1
 replace S := S.put 3 rfl 0 (.slice Au0 nu0 cu0)
 replace c := st c S (S.base_le 3 rfl)
 replace S := S.put 3 rfl 1 (.slice Au1 nu1 cu1)
 replace c := st c S (S.base_le 3 rfl)
 refine wpAnyL_step (i := 7) (by kernel_rfl) rfl rfl ?_
 intro K hK
 go_simp
 refine hK _ _ (fun h => nomatch (show true = false from h)) ?_
 clear hK K
 try simp only [Act.put]
 refine wpAnyL_done (by kernel_rfl) ?_ _
 go_wp2
 rw [rounds_succ]
 generalize (w8.setCell ⟨w3.heap.size, 0, none⟩ (.slice Au0 nu0 cu0)).setCell ⟨w3.heap.size, 1, none⟩ (.slice Au1 nu1 cu1) = w9 at *
 clear HF
 clear f14 f15 f16 f17
 replace S := S.boxAt c.size (w9.heap.size) rfl #[.slice Aa2 na2 ca2, .slice Aa3 na3 ca3] 33
 replace c := al c S
 have f18 := lk S 0 0 rfl rfl
 have f19 := lk S 0 1 rfl rfl
 go_wp2_with fail
 generalize w9.alloc (.cells #[.slice Aa2 na2 ca2, .slice Aa3 na3 ca3] 33) = w10 at *
 refine wp_region_L (fun v => v.cell? ⟨w9.heap.size, 0, none⟩ = some (.slice Aa2 na2 ca2) ∧ v.cell? ⟨w9.heap.size, 1, none⟩ = some (.slice Aa3 na3 ca3)) 7 (by kernel_rfl) ?_
 clear f18 f19
 replace S := S.keep ((Below.refl _ _).drew)
 replace c := c.drew
 generalize w10.drew = w11 at *
 have HF : w11.cell? ⟨w9.heap.size, 0, none⟩ = some (.slice Aa2 na2 ca2) ∧ w11.cell? ⟨w9.heap.size, 1, none⟩ = some (.slice Aa3 na3 ca3) := ⟨(S.at_ 0 rfl).cell 0, (S.at_ 0 rfl).cell 1⟩
 refine tk 0 (v := ?_) rfl rfl HF (.inl ⟨by rfl, ?_⟩) ?_
 rotate_left 1
 · (rintro v ⟨a0, a1⟩; go_simp; try with_reducible rfl)
 try simp only [Act.put]
 refine tk 1 (v := ?_) rfl rfl HF (.inl ⟨by rfl, ?_⟩) ?_
 rotate_left 1
 · (rintro v ⟨a0, a1⟩; go_simp; try with_reducible rfl)
 try simp only [Act.put]
 refine tk 2 (v := ?_) rfl rfl HF (.inl ⟨by rfl, ?_⟩) ?_
 rotate_left 1
 · (rintro v ⟨a0, a1⟩; go_simp; try with_reducible rfl)
 try simp only [Act.put]
 refine tk 3 (v := ?_) rfl rfl HF (.inl ⟨by rfl, ?_⟩) ?_
 rotate_left 1
 · (rintro v ⟨a0, a1⟩; go_simp; try with_reducible rfl)
 try simp only [Act.put]
 refine wpAnyL_step (i := 4) (by kernel_rfl) rfl rfl ?_
 intro K hK
 go_simp
 refine (iFates1 _ _ _ fs _ ((hi.below c).up c.size) ho).mono ?_
 rintro e w12 ⟨Aq0, nq0, cq0, rfl, o, b⟩
 obtain ⟨fp_q, S'⟩ := S.has b o.has c.size
 replace c := c.trans (b.mono c.size)
 clear S; have S := S'; clear S' o b
 clear HF
 have HF : w12.cell? ⟨w9.heap.size, 0, none⟩ = some (.slice Aa2 na2 ca2) ∧ w12.cell? ⟨w9.heap.size, 1, none⟩ = some (.slice Aa3 na3 ca3) := ⟨(S.at_ 1 rfl).cell 0, (S.at_ 1 rfl).cell 1⟩
 refine hK _ _ (fun _ => HF) ?_
 clear hK K
 try simp only [Act.put]
 refine wpAnyL_step (i := 5) (by kernel_rfl) rfl rfl ?_
 intro K hK
 go_simp
 refine (iFallen_any _ _ _ _ _ _ t.b _ _ _ _ _ ((hb.keep c).up c.size) hsb ((S.own_ 0 rfl).rd) hz1).mono ?_
 rintro e w13 ⟨Ay0, ny0, cy0, Ay1, ny1, cy1, rfl, o, b⟩
 obtain ⟨fp_y, S'⟩ := S.has b o c.size
 replace c := c.trans (b.mono c.size)
 clear S; have S := S'; clear S' o b
 clear HF
 have HF : w13.cell? ⟨w9.heap.size, 0, none⟩ = some (.slice Aa2 na2 ca2) ∧ w13.cell? ⟨w9.heap.size, 1, none⟩ = some (.slice Aa3 na3 ca3) := ⟨(S.at_ 2 rfl).cell 0, (S.at_ 2 rfl).cell 1⟩
 refine hK _ _ (fun _ => HF) ?_
 clear hK K
 try simp only [Act.put]
 refine wpAnyL_step (i := 6) (by kernel_rfl) rfl rfl ?_
 intro K hK
 go_simp
 refine hK _ _ (fun _ => HF) ?_
 clear hK K
 try simp only [Act.put]
 have f20 := lk S 6 2 rfl rfl
 have f21 := (S.at_ 6 rfl).free 2
 have f22 := lk S 6 3 rfl rfl
 have f23 := (S.at_ 6 rfl).free 3
 replace S := S.put 6 rfl 2 (.slice Ay0 ny0 cy0)
 replace c := st c S (S.base_le 6 rfl)
 replace S := S.put 6 rfl 3 (.slice Ay1 ny1 cy1)
 replace c := st c S (S.base_le 6 rfl)
 refine wpAnyL_step (i := 7) (by kernel_rfl) rfl rfl ?_
 intro K hK
 go_simp
 refine hK _ _ (fun h => nomatch (show true = false from h)) ?_
 clear hK K
 try simp only [Act.put]
 refine wpAnyL_done (by kernel_rfl) ?_ _
 go_wp2
 rw [rounds_succ]
 generalize (w13.setCell ⟨w3.heap.size, 2, none⟩ (.slice Ay0 ny0 cy0)).setCell ⟨w3.heap.size, 3, none⟩ (.slice Ay1 ny1 cy1) = w14 at *
 clear HF
 clear f20 f21 f22 f23
 have f24 := lk S 6 0 rfl rfl
 have f25 := lk S 6 1 rfl rfl
 have f26 := lk S 6 2 rfl rfl
 have f27 := lk S 6 3 rfl rfl
 go_wp2_with fail
 refine (iTwoOf_any _ _ _ _ _ _ _ _ _ _ _ _ _).mono ?_
 rintro e w15 ⟨rfl, b⟩
 replace c := c.trans (b.mono c.size)
 replace S := S.keep b
 clear b f24 f25 f26 f27
 have f28 := lk S 7 0 rfl rfl
 have f29 := (S.at_ 7 rfl).free 0
 have f30 := lk S 7 1 rfl rfl
 have f31 := (S.at_ 7 rfl).free 1
 have f32 := lk S 7 2 rfl rfl
 have f33 := (S.at_ 7 rfl).free 2
 have f34 := lk S 7 3 rfl rfl
 have f35 := (S.at_ 7 rfl).free 3
 replace S := S.put 7 rfl 0 (.slice Au0 nu0 cu0)
 replace c := st c S (by omega)
 replace S := S.put 7 rfl 1 (.slice Au1 nu1 cu1)
 replace c := st c S (by omega)
 replace S := S.put 7 rfl 2 (.slice Ay0 ny0 cy0)
 replace c := st c S (by omega)
 replace S := S.put 7 rfl 3 (.slice Ay1 ny1 cy1)
 replace c := st c S (by omega)
 replace S := S.sub (.cons_cons _ (.cons _ (.cons _ (.cons_cons _ (List.nil_sublist _)))))
 have H := jd S.pair
 have C := jd c
 clear S c
 go_wp2
 exact bodyPost_ret (v := .agg #[.slice Au0 nu0 cu0, .slice Au1 nu1 cu1, .slice Ay0 ny0 cy0, .slice Ay1 ny1 cy1]) (by simp [results, Tryz.results14, go_sem, f28, f30, f32, f34]) rfl ⟨_, _, _, _, _, _, _, _, _, _, _, _, rfl, by rw [HR.out]; exact H.out, C.out⟩
theorem rows_ext {a b : List (List Int)} (hl : a.length = b.length) (h : ∀ q, q < a.length → a.getD q [] = b.getD q []) : a = b := by
 apply List.ext_getElem hl
 intro q h1 h2
 have := h q h1
 simpa [List.getD, List.getElem?_eq_getElem h1, List.getElem?_eq_getElem h2] using this
theorem equalIn_bad {t : TwoM} {j : Nat} (h : ¬ (t.a.kept.getD j [] = t.b.kept.getD j [])) : equalIn t = false := by
 have e : ¬ (t.a.kept = t.b.kept) := fun e => h (by rw [e])
 simp [equalIn, e]
theorem equalIn_end {t : TwoM} (h0 : twoOk t = true) (h1 : safeIn t.a = true) (h2 : safeIn t.b = true) (h : ∀ q, q < t.a.kept.length → t.a.kept.getD q [] = t.b.kept.getD q []) : equalIn t = true := by
 have e : t.a.kept = t.b.kept := rows_ext (twoOk_iff.1 h0).2.2 h
 simp [equalIn, h0, h1, h2, e]
set_option maxHeartbeats 6400000 in
theorem iEqualIn_any (Aa0 : Option Addr) (na0 ca0 : Nat) (Aa1 : Option Addr) (na1 ca1 : Nat) (Aa2 : Option Addr) (na2 ca2 : Nat) (Aa3 : Option Addr) (na3 ca3 : Nat) (t : TwoM) (w : World) (h : Rd w w.heap.size t.cells [.slice Aa0 na0 ca0, .slice Aa1 na1 ca1, .slice Aa2 na2 ca2, .slice Aa3 na3 ca3]) (hs : t.sz ≤ 1048576) :
    Calls Tryz.prog 21 #[.agg #[.slice Aa0 na0 ca0, .slice Aa1 na1 ca1, .slice Aa2 na2 ca2, .slice Aa3 na3 ca3]] w fun e w' => e = .returned (.bool (equalIn t)) ∧ Below w.heap.size w w' := by
 obtain ⟨ha, hb⟩ := h.halves
 have hsa : t.a.sz ≤ 1048576 := by unfold TwoM.sz at hs; omega
 have hsb : t.b.sz ≤ 1048576 := by unfold TwoM.sz at hs; omega
 cases hok : twoOk t
 case false =>
  have HR := jd (show equalIn t = false by simp [equalIn, hok])
  have HT := jd hok
  clear hok
  have S := Sep.nil w w.heap.size
  have c := Below.refl w.heap.size w
  replace S := S.boxAt c.size (w.heap.size) rfl #[.slice Aa0 na0 ca0, .slice Aa1 na1 ca1, .slice Aa2 na2 ca2, .slice Aa3 na3 ca3] 35
  replace c := al c S
  go_enter Tryz.func21, Tryz.ntmps21
  have f0 := lk S 0 0 rfl rfl
  have f1 := lk S 0 1 rfl rfl
  have f2 := lk S 0 2 rfl rfl
  have f3 := lk S 0 3 rfl rfl
  go_wp2_with fail
  generalize w.alloc (.cells #[.slice Aa0 na0 ca0, .slice Aa1 na1 ca1, .slice Aa2 na2 ca2, .slice Aa3 na3 ca3] 35) = w1 at *
  refine (iTwoOk_any _ _ _ _ _ _ _ _ _ _ _ _ t _ _ (h.keep c) c.size (by omega)).mono ?_
  rintro e w2 ⟨rfl, b⟩
  replace c := c.trans (b.mono c.size)
  replace S := S.keep b
  clear b f0 f1 f2 f3
  rw [HT.out]
  have C := jd c
  clear S c h ha hb
  go_wp2
  go_ret
  exact ⟨ret_bool HR.out.symm, C.out⟩
 have HT := jd hok
 cases h1 : safeIn t.a
 case false =>
  have HR := jd (show equalIn t = false by simp [equalIn, h1])
  have H1 := jd h1
  clear hok h1
  have S := Sep.nil w w.heap.size
  have c := Below.refl w.heap.size w
  replace S := S.boxAt c.size (w.heap.size) rfl #[.slice Aa0 na0 ca0, .slice Aa1 na1 ca1, .slice Aa2 na2 ca2, .slice Aa3 na3 ca3] 35
  replace c := al c S
  go_enter Tryz.func21, Tryz.ntmps21
  have f0 := lk S 0 0 rfl rfl
  have f1 := lk S 0 1 rfl rfl
  have f2 := lk S 0 2 rfl rfl
  have f3 := lk S 0 3 rfl rfl
  go_wp2_with fail
  generalize w.alloc (.cells #[.slice Aa0 na0 ca0, .slice Aa1 na1 ca1, .slice Aa2 na2 ca2, .slice Aa3 na3 ca3] 35) = w1 at *
  refine (iTwoOk_any _ _ _ _ _ _ _ _ _ _ _ _ t _ _ (h.keep c) c.size (by omega)).mono ?_
  rintro e w2 ⟨rfl, b⟩
  replace c := c.trans (b.mono c.size)
  replace S := S.keep b
  clear b f0 f1 f2 f3
  rw [HT.out]
  have f4 := lk S 0 0 rfl rfl
  have f5 := lk S 0 1 rfl rfl
  go_wp2_with fail
  refine (iSafeIn_any _ _ t.a _ _ (ha.keep c) c.size (by omega)).mono ?_
  rintro e w3 ⟨rfl, b⟩
  replace c := c.trans (b.mono c.size)
  replace S := S.keep b
  clear b f4 f5
  rw [H1.out]
  have C := jd c
  clear S c h ha hb
  go_wp2
  go_ret
  exact ⟨ret_bool HR.out.symm, C.out⟩
 have H1 := jd h1
 cases h2 : safeIn t.b
 case false =>
  have HR := jd (show equalIn t = false by simp [equalIn, h2])
  have H2 := jd h2
  clear hok h1 h2
  have S := Sep.nil w w.heap.size
  have c := Below.refl w.heap.size w
  replace S := S.boxAt c.size (w.heap.size) rfl #[.slice Aa0 na0 ca0, .slice Aa1 na1 ca1, .slice Aa2 na2 ca2, .slice Aa3 na3 ca3] 35
  replace c := al c S
  go_enter Tryz.func21, Tryz.ntmps21
  have f0 := lk S 0 0 rfl rfl
  have f1 := lk S 0 1 rfl rfl
  have f2 := lk S 0 2 rfl rfl
  have f3 := lk S 0 3 rfl rfl
  go_wp2_with fail
  generalize w.alloc (.cells #[.slice Aa0 na0 ca0, .slice Aa1 na1 ca1, .slice Aa2 na2 ca2, .slice Aa3 na3 ca3] 35) = w1 at *
  refine (iTwoOk_any _ _ _ _ _ _ _ _ _ _ _ _ t _ _ (h.keep c) c.size (by omega)).mono ?_
  rintro e w2 ⟨rfl, b⟩
  replace c := c.trans (b.mono c.size)
  replace S := S.keep b
  clear b f0 f1 f2 f3
  rw [HT.out]
  have f4 := lk S 0 0 rfl rfl
  have f5 := lk S 0 1 rfl rfl
  go_wp2_with fail
  refine (iSafeIn_any _ _ t.a _ _ (ha.keep c) c.size (by omega)).mono ?_
  rintro e w3 ⟨rfl, b⟩
  replace c := c.trans (b.mono c.size)
  replace S := S.keep b
  clear b f4 f5
  rw [H1.out]
  have f6 := lk S 0 2 rfl rfl
  have f7 := lk S 0 3 rfl rfl
  go_wp2_with fail
  refine (iSafeIn_any _ _ t.b _ _ (hb.keep c) c.size (by omega)).mono ?_
  rintro e w4 ⟨rfl, b⟩
  replace c := c.trans (b.mono c.size)
  replace S := S.keep b
  clear b f6 f7
  rw [H2.out]
  have C := jd c
  clear S c h ha hb
  go_wp2
  go_ret
  exact ⟨ret_bool HR.out.symm, C.out⟩
 have H2 := jd h2
 have hlen := (twoOk_iff.1 hok).2.2
 have HO := jd hok
 clear hok h1 h2
 obtain ⟨_, _, _, _, _, _, e, _, ka, _⟩ := ha.disk
 injection e with e1 e2 e3
 subst e1 e2 e3
 obtain ⟨_, _, _, e, hl1, _, _, hel1⟩ := ka.kept
 injection e with e1 e2 e3
 subst e1 e2 e3
 obtain ⟨_, _, _, _, _, _, e, _, kb, _⟩ := hb.disk
 injection e with e1 e2 e3
 subst e1 e2 e3
 obtain ⟨_, _, _, e, hl2, _, _, hel2⟩ := kb.kept
 injection e with e1 e2 e3
 subst e1 e2 e3
 have n02 : na0 ≤ na2 := by omega
 have n20 : na2 ≤ na0 := by omega
 have hn0 : na0 ≤ 1048577 := by unfold DiskM.sz rowsSz at hsa; omega
 have HL1 := jd hl1
 have HL2 := jd hl2
 clear hl1 hl2 hlen ka kb
 have S := Sep.nil w w.heap.size
 have c := Below.refl w.heap.size w
 replace S := S.boxAt c.size (w.heap.size) rfl #[.slice Aa0 na0 ca0, .slice Aa1 na1 ca1, .slice Aa2 na2 ca2, .slice Aa3 na3 ca3] 35
 replace c := al c S
 go_enter Tryz.func21, Tryz.ntmps21
 have f0 := lk S 0 0 rfl rfl
 have f1 := lk S 0 1 rfl rfl
 have f2 := lk S 0 2 rfl rfl
 have f3 := lk S 0 3 rfl rfl
 go_wp2_with fail
 generalize w.alloc (.cells #[.slice Aa0 na0 ca0, .slice Aa1 na1 ca1, .slice Aa2 na2 ca2, .slice Aa3 na3 ca3] 35) = w1 at *
 refine (iTwoOk_any _ _ _ _ _ _ _ _ _ _ _ _ t _ _ (h.keep c) c.size (by omega)).mono ?_
 rintro e w2 ⟨rfl, b⟩
 replace c := c.trans (b.mono c.size)
 replace S := S.keep b
 clear b f0 f1 f2 f3
 rw [HT.out]
 have f4 := lk S 0 0 rfl rfl
 have f5 := lk S 0 1 rfl rfl
 go_wp2_with fail
 refine (iSafeIn_any _ _ t.a _ _ (ha.keep c) c.size (by omega)).mono ?_
 rintro e w3 ⟨rfl, b⟩
 replace c := c.trans (b.mono c.size)
 replace S := S.keep b
 clear b f4 f5
 rw [H1.out]
 have f6 := lk S 0 2 rfl rfl
 have f7 := lk S 0 3 rfl rfl
 go_wp2_with fail
 refine (iSafeIn_any _ _ t.b _ _ (hb.keep c) c.size (by omega)).mono ?_
 rintro e w4 ⟨rfl, b⟩
 replace c := c.trans (b.mono c.size)
 replace S := S.keep b
 clear b f6 f7
 rw [H2.out]
 have SH := jd S
 have CH := jd c
 have z0 := c.size
 have f8 := lk S 0 0 rfl rfl
 have f9 := lk S 0 1 rfl rfl
 have f10 := lk S 0 2 rfl rfl
 have f11 := lk S 0 3 rfl rfl
 clear S c h ha hb
 go_wp2
 go_loop [24] (fun i => ∃ j : Nat, j ≤ na0 ∧ i = .int .i64 (j : Int) ∧ (∀ q, q < j → t.a.kept.getD q [] = t.b.kept.getD q [])) (fun i => na0 - (intOf i).toNat)
 case atStart => exact ⟨0, Nat.zero_le _, rfl, fun q hq => absurd hq (by omega)⟩
 case round =>
  obtain ⟨j, hj, rfl, hsame⟩ := hrel
  have hbel := Below.refl w4.heap.size w4
  have cc := CH.out.trans (hbel.mono z0)
  have pa := (SH.out.keep hbel).at_ 0 rfl
  have g0 : w4.cell? ⟨w.heap.size, 0, none⟩ = some (.slice Aa0 na0 ca0) := pa.cell 0
  have g2 : w4.cell? ⟨w.heap.size, 2, none⟩ = some (.slice Aa2 na2 ca2) := pa.cell 2
  by_cases hlt : j < na0
  · obtain ⟨b1, of1, rfl, hb1, hc1⟩ := hel1 (by omega)
    obtain ⟨b2, of2, rfl, hb2, hc2⟩ := hel2 (by omega)
    have hjl1 : j < t.a.kept.length := by rw [HL1.out]; exact hlt
    have hjl2 : j < t.b.kept.length := by rw [HL2.out]; omega
    obtain ⟨A1, m1, d1, hcell1, hrow1, _⟩ := hc1 j hjl1
    obtain ⟨A2, m2, d2, hcell2, hrow2, _⟩ := hc2 j hjl2
    have ce1 := (cc.cell (p := ⟨b1, of1 + j, none⟩) hb1).trans hcell1
    have ce2 := (cc.cell (p := ⟨b2, of2 + j, none⟩) hb2).trans hcell2
    have hm1 : m1 ≤ 1048577 := by
     have h1 := pre_at (g := List.length) hjl1
     have h3 := hrow1.1
     unfold DiskM.sz rowsSz at hsa
     omega
    have hm2 : m2 ≤ 1048577 := by
     have h1 := pre_at (g := List.length) hjl2
     have h3 := hrow2.1
     unfold DiskM.sz rowsSz at hsb
     omega
    have hr1 := hrow1.below cc
    have hr2 := hrow2.below cc
    have i0 : (0 : Int) ≤ (j : Int) := by omega
    have i1 : (j : Int) < (na0 : Int) := by omega
    have i2 : (j : Int) < (na2 : Int) := by omega
    have ea : t.a.kept.getD j [] = t.a.kept[j] := by simp [List.getD, List.getElem?_eq_getElem hjl1]
    have eb : t.b.kept.getD j [] = t.b.kept[j] := by simp [List.getD, List.getElem?_eq_getElem hjl2]
    have BR := jd cc
    have BL := jd hbel
    have HJ := jd hsame
    cases hsm : sameI t.a.kept[j] t.b.kept[j]
    · have hq := jd (show Calls Tryz.prog 69 #[.slice A1 m1 d1, .slice A2 m2 d2] w4 (fun e w' => e = .returned (.bool false) ∧ w4 = w') from by have := iSame_any A1 A2 m1 m2 d1 d2 _ _ _ _ w4 hr1 hr2 hm1 hm2; rw [hsm] at this; exact this)
      have HR := jd (show equalIn t = false from equalIn_bad (fun e => by
       rw [show t.a.kept[j] = t.b.kept[j] by rw [← ea, ← eb, e]] at hsm
       simp [sameI] at hsm))
      clear hc1 hc2 hcell1 hcell2 hrow1 hrow2 hel1 hel2 hr1 hr2 hsm ea eb hsame hbel cc pa
      go_wp2_with fail
      refine (hq.out).mono ?_
      rintro e w9 ⟨rfl, rfl⟩
      go_wp2
      go_ret
      exact ⟨ret_bool HR.out.symm, BR.out⟩
    · have hq := jd (show Calls Tryz.prog 69 #[.slice A1 m1 d1, .slice A2 m2 d2] w4 (fun e w' => e = .returned (.bool true) ∧ w4 = w') from by have := iSame_any A1 A2 m1 m2 d1 d2 _ _ _ _ w4 hr1 hr2 hm1 hm2; rw [hsm] at this; exact this)
      have HN := jd (show ∀ q, q < j + 1 → t.a.kept.getD q [] = t.b.kept.getD q [] from fun q hq => by
       rcases Nat.lt_or_ge q j with h9 | h9
       · exact HJ.out q h9
       · have : q = j := by omega
         subst this
         rw [ea, eb]
         simpa [sameI] using hsm)
      clear hc1 hc2 hcell1 hcell2 hrow1 hrow2 hel1 hel2 hr1 hr2 hsm ea eb hsame hbel cc pa
      go_wp2_with fail
      refine (hq.out).mono ?_
      rintro e w9 ⟨rfl, rfl⟩
      go_wp2
      go_round
      case rel => exact ⟨j + 1, by omega, by go_num, HN.out⟩
      case measure => simp [intOf]; omega
  · have HR := jd (show equalIn t = true from equalIn_end HO.out H1.out H2.out (fun q hq => hsame q (by rw [HL1.out] at hq; omega)))
    have i1 : ¬ ((j : Int) < (na0 : Int)) := by omega
    clear hel1 hel2 hsame
    go_wp2
    go_ret
    exact ⟨ret_bool HR.out.symm, cc⟩
theorem iBothSynced_c : CBothSynced 46 := fun Aa0 na0 ca0 Aa1 na1 ca1 Aa2 na2 ca2 Aa3 na3 ca3 t w h hs => iBothSynced_any Aa0 na0 ca0 Aa1 na1 ca1 Aa2 na2 ca2 Aa3 na3 ca3 t w h hs
theorem iBothFallen_c : CBothFallen 14 := fun Aa0 na0 ca0 Aa1 na1 ca1 Aa2 na2 ca2 Aa3 na3 ca3 t E o co fs w h hs h2 hs2 => iBothFallen_any Aa0 na0 ca0 Aa1 na1 ca1 Aa2 na2 ca2 Aa3 na3 ca3 t E o co fs w h hs h2 hs2
theorem iRotted_c : CRotted 16 := fun A n c A' n' c' d at_ i x w h hs => iRotted_any A n c A' n' c' d at_ i x w h hs
theorem iEqualIn_c : CEqualIn 21 := fun Aa0 na0 ca0 Aa1 na1 ca1 Aa2 na2 ca2 Aa3 na3 ca3 t w h hs => iEqualIn_any Aa0 na0 ca0 Aa1 na1 ca1 Aa2 na2 ca2 Aa3 na3 ca3 t w h hs
theorem lawKept_i (A : Option Addr) (n c0 : Nat) (w : World) (h : BRow w w.heap.size A n) (hm : n ≤ maxLen) : Calls Tryz.prog 3 #[.slice A n c0] w fun e w' => e = .returned (.bool true) ∧ Below w.heap.size w w' :=
 lawKept iNewKept_c iKeptEntry_c iBothSynced_c iBothFallen_c iRotted_c iRecovered_c iLastOf_c iBookOk_c iEqualIn_c A n c0 w h hm
end Go.Proofs.YtmjifhjhialcbaaGreat
