/- Parts of my texts: HeadIC TwoI2 LawZTurn. -/
import Derived.Test.YtmjifhjhialcbaaT22
import Derived.Test.YtmjifhjhialcbaaT37
import Derived.Test.YtmjifhjhialcbaaT41
namespace Go.Proofs.Ytmjifhjhialcbaa
set_option maxRecDepth 100000
set_option linter.unusedVariables false
open Go.RowKit
theorem iNewKept_c : CNewKept 23 := fun w => iNewKept_any w
theorem iKeptHead_c : CKeptHead 22 := fun Aa0 na0 ca0 Aa1 na1 ca1 Aa2 na2 ca2 Aa3 na3 ca3 t x0 x1 x2 A n cc l w h hs h2 hs2 => iKeptHead_any Aa0 na0 ca0 Aa1 na1 ca1 Aa2 na2 ca2 Aa3 na3 ca3 t x0 x1 x2 A n cc l w h hs h2 hs2
theorem iHeadIn_c : CHeadIn 25 := fun Aa0 na0 ca0 Aa1 na1 ca1 Aa2 na2 ca2 Aa3 na3 ca3 t w h hs => iHeadIn_any Aa0 na0 ca0 Aa1 na1 ca1 Aa2 na2 ca2 Aa3 na3 ca3 t w h hs
theorem iFates0 (E : Option Addr) (o co : Nat) (fs : List Int) (w : World) (h : IRow w w.heap.size E o fs) (ho : o ≤ 1048577) :
    Calls Try.prog 58 #[.slice E o co, .int .i64 0] w (MadeRow w (second fs 0)) := iFates_any E o co fs 0 w h ho (by omega)
theorem iFates1 (E : Option Addr) (o co : Nat) (fs : List Int) (w : World) (h : IRow w w.heap.size E o fs) (ho : o ≤ 1048577) :
    Calls Try.prog 58 #[.slice E o co, .int .i64 1] w (MadeRow w (second fs 1)) := iFates_any E o co fs 1 w h ho (by omega)
theorem second_le2 (xs : List Int) (k : Nat) (h : xs.length ≤ 1048576) : (second xs k).length ≤ 1048576 := by rw [second_len]; omega
set_option maxHeartbeats 12800000 in
theorem iBothFallen_any (Aa0 : Option Addr) (na0 ca0 : Nat) (Aa1 : Option Addr) (na1 ca1 : Nat) (Aa2 : Option Addr) (na2 ca2 : Nat) (Aa3 : Option Addr) (na3 ca3 : Nat) (t : TwoM) (E : Option Addr) (o co : Nat) (fs : List Int) (w : World) (h : Rd w w.heap.size t.cells [.slice Aa0 na0 ca0, .slice Aa1 na1 ca1, .slice Aa2 na2 ca2, .slice Aa3 na3 ca3]) (hs : t.sz ≤ 1048576) (h2 : Rd w w.heap.size (rowCells fs) [.slice E o co]) (hs2 : fs.length ≤ 1048576) :
    Calls Try.prog 26 #[.agg #[.slice Aa0 na0 ca0, .slice Aa1 na1 ca1, .slice Aa2 na2 ca2, .slice Aa3 na3 ca3], .slice E o co] w (MadeT w (bothFallen t fs)) := by
 obtain ⟨ha, hb⟩ := h.halves
 have hsa : t.a.sz ≤ 1048576 := by unfold TwoM.sz at hs; omega
 have hsb : t.b.sz ≤ 1048576 := by unfold TwoM.sz at hs; omega
 obtain ⟨hi, _, _⟩ := rdI h2
 have ho : o ≤ 1048577 := by rw [← hi.1]; omega
 have hz0 := second_le2 fs 0 hs2
 have hz1 := second_le2 fs 1 hs2
 cases hok : twoOk t
 case false =>
  have HR := jd (show bothFallen t fs = zeroT by simp [bothFallen, hok])
  have HT := jd hok
  clear hok
  have S := Sep.nil w w.heap.size
  have c := Below.refl w.heap.size w
  replace S := S.boxAt c.size (w.heap.size) rfl #[.slice Aa0 na0 ca0, .slice Aa1 na1 ca1, .slice Aa2 na2 ca2, .slice Aa3 na3 ca3] 60
  replace c := al c S
  replace S := S.boxAt c.size (w.heap.size + 1) (by simp) #[.slice none 0 0, .slice none 0 0, .slice none 0 0, .slice none 0 0] 60
  replace c := al c S
  go_enter Try.func26, Try.ntmps26
  have f0 := lk S 1 0 rfl rfl
  have f1 := lk S 1 1 rfl rfl
  have f2 := lk S 1 2 rfl rfl
  have f3 := lk S 1 3 rfl rfl
  go_wp2_with fail
  generalize (w.alloc (.cells #[.slice Aa0 na0 ca0, .slice Aa1 na1 ca1, .slice Aa2 na2 ca2, .slice Aa3 na3 ca3] 60)).alloc (.cells #[.slice none 0 0, .slice none 0 0, .slice none 0 0, .slice none 0 0] 60) = w1 at *
  refine (iTwoOk_any _ _ _ _ _ _ _ _ _ _ _ _ t _ _ (h.keep c) c.size (by omega)).mono ?_
  rintro e w2 ⟨rfl, b⟩
  replace c := c.trans (b.mono c.size)
  replace S := S.keep b
  clear b f0 f1 f2 f3
  rw [HT.out]
  have f4 := lk S 0 0 rfl rfl
  have f5 := (S.at_ 0 rfl).free 0
  have f6 := lk S 0 1 rfl rfl
  have f7 := (S.at_ 0 rfl).free 1
  have f8 := lk S 0 2 rfl rfl
  have f9 := (S.at_ 0 rfl).free 2
  have f10 := lk S 0 3 rfl rfl
  have f11 := (S.at_ 0 rfl).free 3
  replace S := S.put 0 rfl 0 (.slice none 0 0)
  replace c := st c S (by omega)
  replace S := S.put 0 rfl 1 (.slice none 0 0)
  replace c := st c S (by omega)
  replace S := S.put 0 rfl 2 (.slice none 0 0)
  replace c := st c S (by omega)
  replace S := S.put 0 rfl 3 (.slice none 0 0)
  replace c := st c S (by omega)
  have C := jd c
  clear S c h
  go_wp2
  exact bodyPost_ret (v := .agg #[.slice none 0 0, .slice none 0 0, .slice none 0 0, .slice none 0 0]) (by simp [results, Try.results26, go_sem, f4, f6, f8, f10]) rfl ⟨_, _, _, _, _, _, _, _, _, _, _, _, rfl, by rw [HR.out]; exact has_zeroT _ _, C.out⟩
 have HR := jd (show bothFallen t fs = ⟨fallen t.a (second fs 0), fallen t.b (second fs 1)⟩ by simp [bothFallen, hok])
 have HT := jd hok
 clear hok
 have S := Sep.nil w w.heap.size
 have c := Below.refl w.heap.size w
 replace S := S.boxAt c.size (w.heap.size) rfl #[.slice Aa0 na0 ca0, .slice Aa1 na1 ca1, .slice Aa2 na2 ca2, .slice Aa3 na3 ca3] 60
 replace c := al c S
 replace S := S.boxAt c.size (w.heap.size + 1) (by simp) #[.slice none 0 0, .slice none 0 0, .slice none 0 0, .slice none 0 0] 60
 replace c := al c S
 go_enter Try.func26, Try.ntmps26
 have f0 := lk S 1 0 rfl rfl
 have f1 := lk S 1 1 rfl rfl
 have f2 := lk S 1 2 rfl rfl
 have f3 := lk S 1 3 rfl rfl
 go_wp2_with fail
 generalize (w.alloc (.cells #[.slice Aa0 na0 ca0, .slice Aa1 na1 ca1, .slice Aa2 na2 ca2, .slice Aa3 na3 ca3] 60)).alloc (.cells #[.slice none 0 0, .slice none 0 0, .slice none 0 0, .slice none 0 0] 60) = w1 at *
 refine (iTwoOk_any _ _ _ _ _ _ _ _ _ _ _ _ t _ _ (h.keep c) c.size (by omega)).mono ?_
 rintro e w2 ⟨rfl, b⟩
 replace c := c.trans (b.mono c.size)
 replace S := S.keep b
 clear b f0 f1 f2 f3
 rw [HT.out]
 have hix0 : ∀ w9, (Instr.index 97 (.agg #[.slice Aa0 na0 ca0, .slice Aa1 na1 ca1, .slice Aa2 na2 ca2, .slice Aa3 na3 ca3]) (.int .i64 0)).run Try.prog w9 = .ok (.agg #[.slice Aa0 na0 ca0, .slice Aa1 na1 ca1]) w9 := fun _ => by kernel_rfl
 have hix1 : ∀ w9, (Instr.index 97 (.agg #[.slice Aa0 na0 ca0, .slice Aa1 na1 ca1, .slice Aa2 na2 ca2, .slice Aa3 na3 ca3]) (.int .i64 1)).run Try.prog w9 = .ok (.agg #[.slice Aa2 na2 ca2, .slice Aa3 na3 ca3]) w9 := fun _ => by kernel_rfl
 have f4 := lk S 1 0 rfl rfl
 have f5 := lk S 1 1 rfl rfl
 have f6 := lk S 1 2 rfl rfl
 have f7 := lk S 1 3 rfl rfl
 go_wp2_with fail
 refine (iDisks_any _ _ _ _ _ _ _ _ _ _ _ _ _).mono ?_
 rintro e w3 ⟨rfl, b⟩
 replace c := c.trans (b.mono c.size)
 replace S := S.keep b
 clear b f4 f5 f6 f7
 replace S := S.boxAt c.size (w3.heap.size) rfl #[.slice Aa0 na0 ca0, .slice Aa1 na1 ca1, .slice Aa2 na2 ca2, .slice Aa3 na3 ca3] 97
 replace c := al c S
 have f8 := lk S 0 0 rfl rfl
 have f9 := lk S 0 1 rfl rfl
 have f10 := lk S 0 2 rfl rfl
 have f11 := lk S 0 3 rfl rfl
 go_wp2
 refine wp_loop_rounds 3 ?_
 rw [rounds_succ]
 generalize w3.alloc (.cells #[.slice Aa0 na0 ca0, .slice Aa1 na1 ca1, .slice Aa2 na2 ca2, .slice Aa3 na3 ca3] 97) = w4 at *
 clear f8 f9 f10 f11
 replace S := S.boxAt c.size (w4.heap.size) rfl #[.slice Aa0 na0 ca0, .slice Aa1 na1 ca1] 44
 replace c := al c S
 have f12 := lk S 0 0 rfl rfl
 have f13 := lk S 0 1 rfl rfl
 go_wp2_with fail
 generalize w4.alloc (.cells #[.slice Aa0 na0 ca0, .slice Aa1 na1 ca1] 44) = w5 at *
 refine wp_region_L (fun v => v.cell? ⟨w4.heap.size, 0, none⟩ = some (.slice Aa0 na0 ca0) ∧ v.cell? ⟨w4.heap.size, 1, none⟩ = some (.slice Aa1 na1 ca1)) 7 (by kernel_rfl) ?_
 clear f12 f13
 replace S := S.keep ((Below.refl _ _).drew)
 replace c := c.drew
 generalize w5.drew = w6 at *
 have HF : w6.cell? ⟨w4.heap.size, 0, none⟩ = some (.slice Aa0 na0 ca0) ∧ w6.cell? ⟨w4.heap.size, 1, none⟩ = some (.slice Aa1 na1 ca1) := ⟨(S.at_ 0 rfl).cell 0, (S.at_ 0 rfl).cell 1⟩
 refine tk 0 (v := ?_) rfl rfl HF (.inl ⟨by rfl, ?_⟩) ?_
 rotate_left 1
 · (rintro v ⟨a0, a1⟩; go_simp; try with_reducible rfl)
 try simp only [Act.put]
 refine tk 1 (v := ?_) rfl rfl HF (.inl ⟨by rfl, ?_⟩) ?_
 rotate_left 1
 · (rintro v ⟨a0, a1⟩; go_simp; try with_reducible rfl)
 try simp only [Act.put]
 refine tk 2 (v := ?_) rfl rfl HF (.inl ⟨by rfl, ?_⟩) ?_
 rotate_left 1
 · (rintro v ⟨a0, a1⟩; go_simp; try with_reducible rfl)
 try simp only [Act.put]
 refine tk 3 (v := ?_) rfl rfl HF (.inl ⟨by rfl, ?_⟩) ?_
 rotate_left 1
 · (rintro v ⟨a0, a1⟩; go_simp; try with_reducible rfl)
 try simp only [Act.put]
 refine wpAnyL_step (i := 4) (by kernel_rfl) rfl rfl ?_
 intro K hK
 go_simp
 refine (iFates0 _ _ _ fs _ ((hi.below c).up c.size) ho).mono ?_
 rintro e w7 ⟨Ap0, np0, cp0, rfl, o, b⟩
 obtain ⟨fp_p, S'⟩ := S.has b o.has c.size
 replace c := c.trans (b.mono c.size)
 clear S; have S := S'; clear S' o b
 clear HF
 have HF : w7.cell? ⟨w4.heap.size, 0, none⟩ = some (.slice Aa0 na0 ca0) ∧ w7.cell? ⟨w4.heap.size, 1, none⟩ = some (.slice Aa1 na1 ca1) := ⟨(S.at_ 1 rfl).cell 0, (S.at_ 1 rfl).cell 1⟩
 refine hK _ _ (fun _ => HF) ?_
 clear hK K
 try simp only [Act.put]
 refine wpAnyL_step (i := 5) (by kernel_rfl) rfl rfl ?_
 intro K hK
 go_simp
 refine (iFallen_any _ _ _ _ _ _ t.a _ _ _ _ _ ((ha.keep c).up c.size) hsa ((S.own_ 0 rfl).rd) hz0).mono ?_
 rintro e w8 ⟨Au0, nu0, cu0, Au1, nu1, cu1, rfl, o, b⟩
 obtain ⟨fp_u, S'⟩ := S.has b o c.size
 replace c := c.trans (b.mono c.size)
 clear S; have S := S'; clear S' o b
 clear HF
 have HF : w8.cell? ⟨w4.heap.size, 0, none⟩ = some (.slice Aa0 na0 ca0) ∧ w8.cell? ⟨w4.heap.size, 1, none⟩ = some (.slice Aa1 na1 ca1) := ⟨(S.at_ 2 rfl).cell 0, (S.at_ 2 rfl).cell 1⟩
 refine hK _ _ (fun _ => HF) ?_
 clear hK K
 try simp only [Act.put]
 refine wpAnyL_step (i := 6) (by kernel_rfl) rfl rfl ?_
 intro K hK
 go_simp
 refine hK _ _ (fun _ => HF) ?_
 clear hK K
 try simp only [Act.put]
 have f14 := lk S 3 0 rfl rfl
 have f15 := (S.at_ 3 rfl).free 0
 have f16 := lk S 3 1 rfl rfl
 have f17 := (S.at_ 3 rfl).free 1
 replace S := S.put 3 rfl 0 (.slice Au0 nu0 cu0)
 replace c := st c S (S.base_le 3 rfl)
 replace S := S.put 3 rfl 1 (.slice Au1 nu1 cu1)
 replace c := st c S (S.base_le 3 rfl)
 refine wpAnyL_step (i := 7) (by kernel_rfl) rfl rfl ?_
 intro K hK
 go_simp
 refine hK _ _ (fun h => nomatch (show true = false from h)) ?_
 clear hK K
 try simp only [Act.put]
 refine wpAnyL_done (by kernel_rfl) ?_ _
 go_wp2
 rw [rounds_succ]
 generalize (w8.setCell ⟨w3.heap.size, 0, none⟩ (.slice Au0 nu0 cu0)).setCell ⟨w3.heap.size, 1, none⟩ (.slice Au1 nu1 cu1) = w9 at *
 clear HF
 clear f14 f15 f16 f17
 replace S := S.boxAt c.size (w9.heap.size) rfl #[.slice Aa2 na2 ca2, .slice Aa3 na3 ca3] 44
 replace c := al c S
 have f18 := lk S 0 0 rfl rfl
 have f19 := lk S 0 1 rfl rfl
 go_wp2_with fail
 generalize w9.alloc (.cells #[.slice Aa2 na2 ca2, .slice Aa3 na3 ca3] 44) = w10 at *
 refine wp_region_L (fun v => v.cell? ⟨w9.heap.size, 0, none⟩ = some (.slice Aa2 na2 ca2) ∧ v.cell? ⟨w9.heap.size, 1, none⟩ = some (.slice Aa3 na3 ca3)) 7 (by kernel_rfl) ?_
 clear f18 f19
 replace S := S.keep ((Below.refl _ _).drew)
 replace c := c.drew
 generalize w10.drew = w11 at *
 have HF : w11.cell? ⟨w9.heap.size, 0, none⟩ = some (.slice Aa2 na2 ca2) ∧ w11.cell? ⟨w9.heap.size, 1, none⟩ = some (.slice Aa3 na3 ca3) := ⟨(S.at_ 0 rfl).cell 0, (S.at_ 0 rfl).cell 1⟩
 refine tk 0 (v := ?_) rfl rfl HF (.inl ⟨by rfl, ?_⟩) ?_
 rotate_left 1
 · (rintro v ⟨a0, a1⟩; go_simp; try with_reducible rfl)
 try simp only [Act.put]
 refine tk 1 (v := ?_) rfl rfl HF (.inl ⟨by rfl, ?_⟩) ?_
 rotate_left 1
 · (rintro v ⟨a0, a1⟩; go_simp; try with_reducible rfl)
 try simp only [Act.put]
 refine tk 2 (v := ?_) rfl rfl HF (.inl ⟨by rfl, ?_⟩) ?_
 rotate_left 1
 · (rintro v ⟨a0, a1⟩; go_simp; try with_reducible rfl)
 try simp only [Act.put]
 refine tk 3 (v := ?_) rfl rfl HF (.inl ⟨by rfl, ?_⟩) ?_
 rotate_left 1
 · (rintro v ⟨a0, a1⟩; go_simp; try with_reducible rfl)
 try simp only [Act.put]
 refine wpAnyL_step (i := 4) (by kernel_rfl) rfl rfl ?_
 intro K hK
 go_simp
 refine (iFates1 _ _ _ fs _ ((hi.below c).up c.size) ho).mono ?_
 rintro e w12 ⟨Aq0, nq0, cq0, rfl, o, b⟩
 obtain ⟨fp_q, S'⟩ := S.has b o.has c.size
 replace c := c.trans (b.mono c.size)
 clear S; have S := S'; clear S' o b
 clear HF
 have HF : w12.cell? ⟨w9.heap.size, 0, none⟩ = some (.slice Aa2 na2 ca2) ∧ w12.cell? ⟨w9.heap.size, 1, none⟩ = some (.slice Aa3 na3 ca3) := ⟨(S.at_ 1 rfl).cell 0, (S.at_ 1 rfl).cell 1⟩
 refine hK _ _ (fun _ => HF) ?_
 clear hK K
 try simp only [Act.put]
 refine wpAnyL_step (i := 5) (by kernel_rfl) rfl rfl ?_
 intro K hK
 go_simp
 refine (iFallen_any _ _ _ _ _ _ t.b _ _ _ _ _ ((hb.keep c).up c.size) hsb ((S.own_ 0 rfl).rd) hz1).mono ?_
 rintro e w13 ⟨Ay0, ny0, cy0, Ay1, ny1, cy1, rfl, o, b⟩
 obtain ⟨fp_y, S'⟩ := S.has b o c.size
 replace c := c.trans (b.mono c.size)
 clear S; have S := S'; clear S' o b
 clear HF
 have HF : w13.cell? ⟨w9.heap.size, 0, none⟩ = some (.slice Aa2 na2 ca2) ∧ w13.cell? ⟨w9.heap.size, 1, none⟩ = some (.slice Aa3 na3 ca3) := ⟨(S.at_ 2 rfl).cell 0, (S.at_ 2 rfl).cell 1⟩
 refine hK _ _ (fun _ => HF) ?_
 clear hK K
 try simp only [Act.put]
 refine wpAnyL_step (i := 6) (by kernel_rfl) rfl rfl ?_
 intro K hK
 go_simp
 refine hK _ _ (fun _ => HF) ?_
 clear hK K
 try simp only [Act.put]
 have f20 := lk S 6 2 rfl rfl
 have f21 := (S.at_ 6 rfl).free 2
 have f22 := lk S 6 3 rfl rfl
 have f23 := (S.at_ 6 rfl).free 3
 replace S := S.put 6 rfl 2 (.slice Ay0 ny0 cy0)
 replace c := st c S (S.base_le 6 rfl)
 replace S := S.put 6 rfl 3 (.slice Ay1 ny1 cy1)
 replace c := st c S (S.base_le 6 rfl)
 refine wpAnyL_step (i := 7) (by kernel_rfl) rfl rfl ?_
 intro K hK
 go_simp
 refine hK _ _ (fun h => nomatch (show true = false from h)) ?_
 clear hK K
 try simp only [Act.put]
 refine wpAnyL_done (by kernel_rfl) ?_ _
 go_wp2
 rw [rounds_succ]
 generalize (w13.setCell ⟨w3.heap.size, 2, none⟩ (.slice Ay0 ny0 cy0)).setCell ⟨w3.heap.size, 3, none⟩ (.slice Ay1 ny1 cy1) = w14 at *
 clear HF
 clear f20 f21 f22 f23
 have f24 := lk S 6 0 rfl rfl
 have f25 := lk S 6 1 rfl rfl
 have f26 := lk S 6 2 rfl rfl
 have f27 := lk S 6 3 rfl rfl
 go_wp2_with fail
 refine (iTwoOf_any _ _ _ _ _ _ _ _ _ _ _ _ _).mono ?_
 rintro e w15 ⟨rfl, b⟩
 replace c := c.trans (b.mono c.size)
 replace S := S.keep b
 clear b f24 f25 f26 f27
 have f28 := lk S 7 0 rfl rfl
 have f29 := (S.at_ 7 rfl).free 0
 have f30 := lk S 7 1 rfl rfl
 have f31 := (S.at_ 7 rfl).free 1
 have f32 := lk S 7 2 rfl rfl
 have f33 := (S.at_ 7 rfl).free 2
 have f34 := lk S 7 3 rfl rfl
 have f35 := (S.at_ 7 rfl).free 3
 replace S := S.put 7 rfl 0 (.slice Au0 nu0 cu0)
 replace c := st c S (by omega)
 replace S := S.put 7 rfl 1 (.slice Au1 nu1 cu1)
 replace c := st c S (by omega)
 replace S := S.put 7 rfl 2 (.slice Ay0 ny0 cy0)
 replace c := st c S (by omega)
 replace S := S.put 7 rfl 3 (.slice Ay1 ny1 cy1)
 replace c := st c S (by omega)
 replace S := S.sub (.cons_cons _ (.cons _ (.cons _ (.cons_cons _ (List.nil_sublist _)))))
 have H := jd S.pair
 have C := jd c
 clear S c
 go_wp2
 exact bodyPost_ret (v := .agg #[.slice Au0 nu0 cu0, .slice Au1 nu1 cu1, .slice Ay0 ny0 cy0, .slice Ay1 ny1 cy1]) (by simp [results, Try.results26, go_sem, f28, f30, f32, f34]) rfl ⟨_, _, _, _, _, _, _, _, _, _, _, _, rfl, by rw [HR.out]; exact H.out, C.out⟩
theorem iBothSynced_c : CBothSynced 24 := fun Aa0 na0 ca0 Aa1 na1 ca1 Aa2 na2 ca2 Aa3 na3 ca3 t w h hs => iBothSynced_any Aa0 na0 ca0 Aa1 na1 ca1 Aa2 na2 ca2 Aa3 na3 ca3 t w h hs
theorem iBothFallen_c : CBothFallen 26 := fun Aa0 na0 ca0 Aa1 na1 ca1 Aa2 na2 ca2 Aa3 na3 ca3 t E o co fs w h hs h2 hs2 => iBothFallen_any Aa0 na0 ca0 Aa1 na1 ca1 Aa2 na2 ca2 Aa3 na3 ca3 t E o co fs w h hs h2 hs2
theorem lawTurn_i (A : Option Addr) (n c0 : Nat) (w : World) (h : BRow w w.heap.size A n) (hm : n ≤ maxLen) : Calls Try.prog 4 #[.slice A n c0] w fun e w' => e = .returned (.bool true) ∧ Below w.heap.size w w' :=
 lawTurn iNewKept_c iKeptHead_c iBothSynced_c iBothFallen_c iHeadIn_c iSameSeen_c A n c0 w h hm
end Go.Proofs.Ytmjifhjhialcbaa
