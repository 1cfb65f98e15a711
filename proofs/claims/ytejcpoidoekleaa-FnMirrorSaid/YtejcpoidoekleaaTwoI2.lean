/-
  The program of chapter 4: crashes.
-/
import Derived.Test.YtejcpoidoekleaaTwoI1
import Derived.Test.YtejcpoidoekleaaKT
namespace Go.Proofs.Ytejcpoidoekleaa
set_option maxRecDepth 100000
open Go.RowKit

theorem iFates0 (E : Option Addr) (o co : Nat) (fs : List Int) (w : World) (h : IRow w w.heap.size E o fs) (ho : o ≤ 1048577) :
    Calls Try.prog 66 #[.slice E o co, .int .i64 0] w (MadeRow w (second fs 0)) := iFates_any E o co fs 0 w h ho (by omega)
theorem iFates1 (E : Option Addr) (o co : Nat) (fs : List Int) (w : World) (h : IRow w w.heap.size E o fs) (ho : o ≤ 1048577) :
    Calls Try.prog 66 #[.slice E o co, .int .i64 1] w (MadeRow w (second fs 1)) := iFates_any E o co fs 1 w h ho (by omega)
theorem second_le2 (xs : List Int) (k : Nat) (h : xs.length ≤ 1048576) : (second xs k).length ≤ 1048576 := by rw [second_len]; omega

set_option maxHeartbeats 12800000 in
theorem iBothFallen_any (Aa0 : Option Addr) (na0 ca0 : Nat) (Aa1 : Option Addr) (na1 ca1 : Nat) (Aa2 : Option Addr) (na2 ca2 : Nat) (Aa3 : Option Addr) (na3 ca3 : Nat) (t : TwoM) (E : Option Addr) (o co : Nat) (fs : List Int) (w : World) (h : Rd w w.heap.size t.cells [.slice Aa0 na0 ca0, .slice Aa1 na1 ca1, .slice Aa2 na2 ca2, .slice Aa3 na3 ca3]) (hs : t.sz ≤ 1048576) (h2 : Rd w w.heap.size (rowCells fs) [.slice E o co]) (hs2 : fs.length ≤ 1048576) :
    Calls Try.prog 25 #[.agg #[.slice Aa0 na0 ca0, .slice Aa1 na1 ca1, .slice Aa2 na2 ca2, .slice Aa3 na3 ca3], .slice E o co] w (MadeT w (bothFallen t fs)) := by
  obtain ⟨ha, hb⟩ := h.halves
  have hsa : t.a.sz ≤ 1048576 := by unfold TwoM.sz at hs; omega
  have hsb : t.b.sz ≤ 1048576 := by unfold TwoM.sz at hs; omega
  obtain ⟨hi, _, _⟩ := rdI h2
  have ho : o ≤ 1048577 := by rw [← hi.1]; omega
  have hz0 := second_le2 fs 0 hs2
  have hz1 := second_le2 fs 1 hs2
  cases hok : twoOk t
  case false =>
    have HR := Lib.hid (show bothFallen t fs = zeroT by simp [bothFallen, hok])
    have HT := Lib.hid hok
    clear hok
    have S := Sep.nil w w.heap.size
    have c := Below.refl w.heap.size w
    replace S := S.boxAt c.size (w.heap.size) rfl #[.slice Aa0 na0 ca0, .slice Aa1 na1 ca1, .slice Aa2 na2 ca2, .slice Aa3 na3 ca3] 32
    replace c := c.alloc c.size (.cells #[.slice Aa0 na0 ca0, .slice Aa1 na1 ca1, .slice Aa2 na2 ca2, .slice Aa3 na3 ca3] 32)
    replace S := S.boxAt c.size (w.heap.size + 1) (by simp) #[.slice none 0 0, .slice none 0 0, .slice none 0 0, .slice none 0 0] 32
    replace c := c.alloc c.size (.cells #[.slice none 0 0, .slice none 0 0, .slice none 0 0, .slice none 0 0] 32)
    go_enter Try.func25, Try.ntmps25
    have f0 : ((w.alloc (.cells #[.slice Aa0 na0 ca0, .slice Aa1 na1 ca1, .slice Aa2 na2 ca2, .slice Aa3 na3 ca3] 32)).alloc (.cells #[.slice none 0 0, .slice none 0 0, .slice none 0 0, .slice none 0 0] 32)).cell? ⟨w.heap.size, 0, none⟩ = some (.slice Aa0 na0 ca0) := (S.at_ 1 rfl).cell 0
    have f1 : ((w.alloc (.cells #[.slice Aa0 na0 ca0, .slice Aa1 na1 ca1, .slice Aa2 na2 ca2, .slice Aa3 na3 ca3] 32)).alloc (.cells #[.slice none 0 0, .slice none 0 0, .slice none 0 0, .slice none 0 0] 32)).cell? ⟨w.heap.size, 1, none⟩ = some (.slice Aa1 na1 ca1) := (S.at_ 1 rfl).cell 1
    have f2 : ((w.alloc (.cells #[.slice Aa0 na0 ca0, .slice Aa1 na1 ca1, .slice Aa2 na2 ca2, .slice Aa3 na3 ca3] 32)).alloc (.cells #[.slice none 0 0, .slice none 0 0, .slice none 0 0, .slice none 0 0] 32)).cell? ⟨w.heap.size, 2, none⟩ = some (.slice Aa2 na2 ca2) := (S.at_ 1 rfl).cell 2
    have f3 : ((w.alloc (.cells #[.slice Aa0 na0 ca0, .slice Aa1 na1 ca1, .slice Aa2 na2 ca2, .slice Aa3 na3 ca3] 32)).alloc (.cells #[.slice none 0 0, .slice none 0 0, .slice none 0 0, .slice none 0 0] 32)).cell? ⟨w.heap.size, 3, none⟩ = some (.slice Aa3 na3 ca3) := (S.at_ 1 rfl).cell 3
    go_wp2_with fail
    generalize (w.alloc (.cells #[.slice Aa0 na0 ca0, .slice Aa1 na1 ca1, .slice Aa2 na2 ca2, .slice Aa3 na3 ca3] 32)).alloc (.cells #[.slice none 0 0, .slice none 0 0, .slice none 0 0, .slice none 0 0] 32) = w1 at *
    refine (iTwoOk_any _ _ _ _ _ _ _ _ _ _ _ _ t _ _ (h.keep c) c.size (by omega)).mono ?_
    rintro e w2 ⟨rfl, b⟩
    replace c := c.trans (b.mono c.size)
    replace S := S.keep b
    clear b f0 f1 f2 f3
    rw [HT.out]
    have f4 : w2.cell? ⟨w.heap.size + 1, 0, none⟩ = some (.slice none 0 0) := (S.at_ 0 rfl).cell 0
    have f5 := (S.at_ 0 rfl).free 0
    have f6 : w2.cell? ⟨w.heap.size + 1, 1, none⟩ = some (.slice none 0 0) := (S.at_ 0 rfl).cell 1
    have f7 := (S.at_ 0 rfl).free 1
    have f8 : w2.cell? ⟨w.heap.size + 1, 2, none⟩ = some (.slice none 0 0) := (S.at_ 0 rfl).cell 2
    have f9 := (S.at_ 0 rfl).free 2
    have f10 : w2.cell? ⟨w.heap.size + 1, 3, none⟩ = some (.slice none 0 0) := (S.at_ 0 rfl).cell 3
    have f11 := (S.at_ 0 rfl).free 3
    replace S := S.put 0 rfl 0 (.slice none 0 0)
    replace c := c.setCell (p := ⟨w.heap.size + 1, 0, none⟩) (by show w.heap.size ≤ w.heap.size + 1; omega) (.slice none 0 0)
    replace S := S.put 0 rfl 1 (.slice none 0 0)
    replace c := c.setCell (p := ⟨w.heap.size + 1, 1, none⟩) (by show w.heap.size ≤ w.heap.size + 1; omega) (.slice none 0 0)
    replace S := S.put 0 rfl 2 (.slice none 0 0)
    replace c := c.setCell (p := ⟨w.heap.size + 1, 2, none⟩) (by show w.heap.size ≤ w.heap.size + 1; omega) (.slice none 0 0)
    replace S := S.put 0 rfl 3 (.slice none 0 0)
    replace c := c.setCell (p := ⟨w.heap.size + 1, 3, none⟩) (by show w.heap.size ≤ w.heap.size + 1; omega) (.slice none 0 0)
    have C := Lib.hid c
    clear S c h
    go_wp2
    exact bodyPost_ret (v := .agg #[.slice none 0 0, .slice none 0 0, .slice none 0 0, .slice none 0 0]) (by simp [results, Try.results25, go_sem, f4, f6, f8, f10]) rfl ⟨_, _, _, _, _, _, _, _, _, _, _, _, rfl, by rw [HR.out]; exact has_zeroT _ _, C.out⟩
  have HR := Lib.hid (show bothFallen t fs = ⟨fallen t.a (second fs 0), fallen t.b (second fs 1)⟩ by simp [bothFallen, hok])
  have HT := Lib.hid hok
  clear hok
  have S := Sep.nil w w.heap.size
  have c := Below.refl w.heap.size w
  replace S := S.boxAt c.size (w.heap.size) rfl #[.slice Aa0 na0 ca0, .slice Aa1 na1 ca1, .slice Aa2 na2 ca2, .slice Aa3 na3 ca3] 32
  replace c := c.alloc c.size (.cells #[.slice Aa0 na0 ca0, .slice Aa1 na1 ca1, .slice Aa2 na2 ca2, .slice Aa3 na3 ca3] 32)
  replace S := S.boxAt c.size (w.heap.size + 1) (by simp) #[.slice none 0 0, .slice none 0 0, .slice none 0 0, .slice none 0 0] 32
  replace c := c.alloc c.size (.cells #[.slice none 0 0, .slice none 0 0, .slice none 0 0, .slice none 0 0] 32)
  go_enter Try.func25, Try.ntmps25
  have f0 : ((w.alloc (.cells #[.slice Aa0 na0 ca0, .slice Aa1 na1 ca1, .slice Aa2 na2 ca2, .slice Aa3 na3 ca3] 32)).alloc (.cells #[.slice none 0 0, .slice none 0 0, .slice none 0 0, .slice none 0 0] 32)).cell? ⟨w.heap.size, 0, none⟩ = some (.slice Aa0 na0 ca0) := (S.at_ 1 rfl).cell 0
  have f1 : ((w.alloc (.cells #[.slice Aa0 na0 ca0, .slice Aa1 na1 ca1, .slice Aa2 na2 ca2, .slice Aa3 na3 ca3] 32)).alloc (.cells #[.slice none 0 0, .slice none 0 0, .slice none 0 0, .slice none 0 0] 32)).cell? ⟨w.heap.size, 1, none⟩ = some (.slice Aa1 na1 ca1) := (S.at_ 1 rfl).cell 1
  have f2 : ((w.alloc (.cells #[.slice Aa0 na0 ca0, .slice Aa1 na1 ca1, .slice Aa2 na2 ca2, .slice Aa3 na3 ca3] 32)).alloc (.cells #[.slice none 0 0, .slice none 0 0, .slice none 0 0, .slice none 0 0] 32)).cell? ⟨w.heap.size, 2, none⟩ = some (.slice Aa2 na2 ca2) := (S.at_ 1 rfl).cell 2
  have f3 : ((w.alloc (.cells #[.slice Aa0 na0 ca0, .slice Aa1 na1 ca1, .slice Aa2 na2 ca2, .slice Aa3 na3 ca3] 32)).alloc (.cells #[.slice none 0 0, .slice none 0 0, .slice none 0 0, .slice none 0 0] 32)).cell? ⟨w.heap.size, 3, none⟩ = some (.slice Aa3 na3 ca3) := (S.at_ 1 rfl).cell 3
  go_wp2_with fail
  generalize (w.alloc (.cells #[.slice Aa0 na0 ca0, .slice Aa1 na1 ca1, .slice Aa2 na2 ca2, .slice Aa3 na3 ca3] 32)).alloc (.cells #[.slice none 0 0, .slice none 0 0, .slice none 0 0, .slice none 0 0] 32) = w1 at *
  refine (iTwoOk_any _ _ _ _ _ _ _ _ _ _ _ _ t _ _ (h.keep c) c.size (by omega)).mono ?_
  rintro e w2 ⟨rfl, b⟩
  replace c := c.trans (b.mono c.size)
  replace S := S.keep b
  clear b f0 f1 f2 f3
  rw [HT.out]
  have hix0 : ∀ w9, (Instr.index 70 (.agg #[.slice Aa0 na0 ca0, .slice Aa1 na1 ca1, .slice Aa2 na2 ca2, .slice Aa3 na3 ca3]) (.int .i64 0)).run Try.prog w9 = .ok (.agg #[.slice Aa0 na0 ca0, .slice Aa1 na1 ca1]) w9 := fun _ => by kernel_rfl
  have hix1 : ∀ w9, (Instr.index 70 (.agg #[.slice Aa0 na0 ca0, .slice Aa1 na1 ca1, .slice Aa2 na2 ca2, .slice Aa3 na3 ca3]) (.int .i64 1)).run Try.prog w9 = .ok (.agg #[.slice Aa2 na2 ca2, .slice Aa3 na3 ca3]) w9 := fun _ => by kernel_rfl
  have f4 : w2.cell? ⟨w.heap.size, 0, none⟩ = some (.slice Aa0 na0 ca0) := (S.at_ 1 rfl).cell 0
  have f5 : w2.cell? ⟨w.heap.size, 1, none⟩ = some (.slice Aa1 na1 ca1) := (S.at_ 1 rfl).cell 1
  have f6 : w2.cell? ⟨w.heap.size, 2, none⟩ = some (.slice Aa2 na2 ca2) := (S.at_ 1 rfl).cell 2
  have f7 : w2.cell? ⟨w.heap.size, 3, none⟩ = some (.slice Aa3 na3 ca3) := (S.at_ 1 rfl).cell 3
  go_wp2_with fail
  refine (iDisks_any _ _ _ _ _ _ _ _ _ _ _ _ _).mono ?_
  rintro e w3 ⟨rfl, b⟩
  replace c := c.trans (b.mono c.size)
  replace S := S.keep b
  clear b f4 f5 f6 f7
  replace S := S.boxAt c.size (w3.heap.size) rfl #[.slice Aa0 na0 ca0, .slice Aa1 na1 ca1, .slice Aa2 na2 ca2, .slice Aa3 na3 ca3] 70
  replace c := c.alloc c.size (.cells #[.slice Aa0 na0 ca0, .slice Aa1 na1 ca1, .slice Aa2 na2 ca2, .slice Aa3 na3 ca3] 70)
  have f8 : (w3.alloc (.cells #[.slice Aa0 na0 ca0, .slice Aa1 na1 ca1, .slice Aa2 na2 ca2, .slice Aa3 na3 ca3] 70)).cell? ⟨w3.heap.size, 0, none⟩ = some (.slice Aa0 na0 ca0) := (S.at_ 0 rfl).cell 0
  have f9 : (w3.alloc (.cells #[.slice Aa0 na0 ca0, .slice Aa1 na1 ca1, .slice Aa2 na2 ca2, .slice Aa3 na3 ca3] 70)).cell? ⟨w3.heap.size, 1, none⟩ = some (.slice Aa1 na1 ca1) := (S.at_ 0 rfl).cell 1
  have f10 : (w3.alloc (.cells #[.slice Aa0 na0 ca0, .slice Aa1 na1 ca1, .slice Aa2 na2 ca2, .slice Aa3 na3 ca3] 70)).cell? ⟨w3.heap.size, 2, none⟩ = some (.slice Aa2 na2 ca2) := (S.at_ 0 rfl).cell 2
  have f11 : (w3.alloc (.cells #[.slice Aa0 na0 ca0, .slice Aa1 na1 ca1, .slice Aa2 na2 ca2, .slice Aa3 na3 ca3] 70)).cell? ⟨w3.heap.size, 3, none⟩ = some (.slice Aa3 na3 ca3) := (S.at_ 0 rfl).cell 3
  go_wp2
  refine wp_loop_rounds 3 ?_
  rw [rounds_succ]
  generalize w3.alloc (.cells #[.slice Aa0 na0 ca0, .slice Aa1 na1 ca1, .slice Aa2 na2 ca2, .slice Aa3 na3 ca3] 70) = w4 at *
  clear f8 f9 f10 f11
  replace S := S.boxAt c.size (w4.heap.size) rfl #[.slice Aa0 na0 ca0, .slice Aa1 na1 ca1] 30
  replace c := c.alloc c.size (.cells #[.slice Aa0 na0 ca0, .slice Aa1 na1 ca1] 30)
  have f12 : (w4.alloc (.cells #[.slice Aa0 na0 ca0, .slice Aa1 na1 ca1] 30)).cell? ⟨w4.heap.size, 0, none⟩ = some (.slice Aa0 na0 ca0) := (S.at_ 0 rfl).cell 0
  have f13 : (w4.alloc (.cells #[.slice Aa0 na0 ca0, .slice Aa1 na1 ca1] 30)).cell? ⟨w4.heap.size, 1, none⟩ = some (.slice Aa1 na1 ca1) := (S.at_ 0 rfl).cell 1
  go_wp2_with fail
  generalize w4.alloc (.cells #[.slice Aa0 na0 ca0, .slice Aa1 na1 ca1] 30) = w5 at *
  refine wp_region_L (fun v => v.cell? ⟨w4.heap.size, 0, none⟩ = some (.slice Aa0 na0 ca0) ∧ v.cell? ⟨w4.heap.size, 1, none⟩ = some (.slice Aa1 na1 ca1)) 7 (by kernel_rfl) ?_
  clear f12 f13
  replace S := S.keep ((Below.refl _ _).drew)
  replace c := c.drew
  generalize w5.drew = w6 at *
  have HF : w6.cell? ⟨w4.heap.size, 0, none⟩ = some (.slice Aa0 na0 ca0) ∧ w6.cell? ⟨w4.heap.size, 1, none⟩ = some (.slice Aa1 na1 ca1) := ⟨(S.at_ 0 rfl).cell 0, (S.at_ 0 rfl).cell 1⟩
  refine wpAnyL_take (i := 0) (v := ?_) rfl rfl (by kernel_rfl) (by kernel_rfl) (by kernel_rfl) (by kernel_rfl) (by kernel_rfl) (fun _ _ _ h => h) HF (Or.inl ⟨by rfl, ?_⟩) ?_
  rotate_left 1
  · (rintro v ⟨a0, a1⟩; go_simp; try with_reducible rfl)
  try simp only [Act.put]
  refine wpAnyL_take (i := 1) (v := ?_) rfl rfl (by kernel_rfl) (by kernel_rfl) (by kernel_rfl) (by kernel_rfl) (by kernel_rfl) (fun _ _ _ h => h) HF (Or.inl ⟨by rfl, ?_⟩) ?_
  rotate_left 1
  · (rintro v ⟨a0, a1⟩; go_simp; try with_reducible rfl)
  try simp only [Act.put]
  refine wpAnyL_take (i := 2) (v := ?_) rfl rfl (by kernel_rfl) (by kernel_rfl) (by kernel_rfl) (by kernel_rfl) (by kernel_rfl) (fun _ _ _ h => h) HF (Or.inl ⟨by rfl, ?_⟩) ?_
  rotate_left 1
  · (rintro v ⟨a0, a1⟩; go_simp; try with_reducible rfl)
  try simp only [Act.put]
  refine wpAnyL_take (i := 3) (v := ?_) rfl rfl (by kernel_rfl) (by kernel_rfl) (by kernel_rfl) (by kernel_rfl) (by kernel_rfl) (fun _ _ _ h => h) HF (Or.inl ⟨by rfl, ?_⟩) ?_
  rotate_left 1
  · (rintro v ⟨a0, a1⟩; go_simp; try with_reducible rfl)
  try simp only [Act.put]
  refine wpAnyL_step (i := 4) (by kernel_rfl) rfl rfl ?_
  intro K hK
  go_simp
  refine (iFates0 _ _ _ fs _ ((hi.below c).up c.size) ho).mono ?_
  rintro e w7 ⟨Ap0, np0, cp0, rfl, o, b⟩
  obtain ⟨fp_p, S'⟩ := S.has b o.has c.size
  replace c := c.trans (b.mono c.size)
  clear S; have S := S'; clear S' o b
  clear HF
  have HF : w7.cell? ⟨w4.heap.size, 0, none⟩ = some (.slice Aa0 na0 ca0) ∧ w7.cell? ⟨w4.heap.size, 1, none⟩ = some (.slice Aa1 na1 ca1) := ⟨(S.at_ 1 rfl).cell 0, (S.at_ 1 rfl).cell 1⟩
  refine hK _ _ (fun _ => HF) ?_
  clear hK K
  try simp only [Act.put]
  refine wpAnyL_step (i := 5) (by kernel_rfl) rfl rfl ?_
  intro K hK
  go_simp
  refine (iFallen_any _ _ _ _ _ _ t.a _ _ _ _ _ ((ha.keep c).up c.size) hsa ((S.own_ 0 rfl).rd) hz0).mono ?_
  rintro e w8 ⟨Au0, nu0, cu0, Au1, nu1, cu1, rfl, o, b⟩
  obtain ⟨fp_u, S'⟩ := S.has b o c.size
  replace c := c.trans (b.mono c.size)
  clear S; have S := S'; clear S' o b
  clear HF
  have HF : w8.cell? ⟨w4.heap.size, 0, none⟩ = some (.slice Aa0 na0 ca0) ∧ w8.cell? ⟨w4.heap.size, 1, none⟩ = some (.slice Aa1 na1 ca1) := ⟨(S.at_ 2 rfl).cell 0, (S.at_ 2 rfl).cell 1⟩
  refine hK _ _ (fun _ => HF) ?_
  clear hK K
  try simp only [Act.put]
  refine wpAnyL_step (i := 6) (by kernel_rfl) rfl rfl ?_
  intro K hK
  go_simp
  refine hK _ _ (fun _ => HF) ?_
  clear hK K
  try simp only [Act.put]
  have f14 : w8.cell? ⟨w3.heap.size, 0, none⟩ = some (.slice Aa0 na0 ca0) := (S.at_ 3 rfl).cell 0
  have f15 := (S.at_ 3 rfl).free 0
  have f16 : w8.cell? ⟨w3.heap.size, 1, none⟩ = some (.slice Aa1 na1 ca1) := (S.at_ 3 rfl).cell 1
  have f17 := (S.at_ 3 rfl).free 1
  replace c := c.setCell (p := ⟨w3.heap.size, 0, none⟩) (S.base_le 3 rfl) (.slice Au0 nu0 cu0)
  replace S := S.put 3 rfl 0 (.slice Au0 nu0 cu0)
  replace c := c.setCell (p := ⟨w3.heap.size, 1, none⟩) (S.base_le 3 rfl) (.slice Au1 nu1 cu1)
  replace S := S.put 3 rfl 1 (.slice Au1 nu1 cu1)
  refine wpAnyL_step (i := 7) (by kernel_rfl) rfl rfl ?_
  intro K hK
  go_simp
  refine hK _ _ (fun h => nomatch (show true = false from h)) ?_
  clear hK K
  try simp only [Act.put]
  refine wpAnyL_done (by kernel_rfl) ?_ _
  go_wp2
  rw [rounds_succ]
  generalize (w8.setCell ⟨w3.heap.size, 0, none⟩ (.slice Au0 nu0 cu0)).setCell ⟨w3.heap.size, 1, none⟩ (.slice Au1 nu1 cu1) = w9 at *
  clear HF
  clear f14 f15 f16 f17
  replace S := S.boxAt c.size (w9.heap.size) rfl #[.slice Aa2 na2 ca2, .slice Aa3 na3 ca3] 30
  replace c := c.alloc c.size (.cells #[.slice Aa2 na2 ca2, .slice Aa3 na3 ca3] 30)
  have f18 : (w9.alloc (.cells #[.slice Aa2 na2 ca2, .slice Aa3 na3 ca3] 30)).cell? ⟨w9.heap.size, 0, none⟩ = some (.slice Aa2 na2 ca2) := (S.at_ 0 rfl).cell 0
  have f19 : (w9.alloc (.cells #[.slice Aa2 na2 ca2, .slice Aa3 na3 ca3] 30)).cell? ⟨w9.heap.size, 1, none⟩ = some (.slice Aa3 na3 ca3) := (S.at_ 0 rfl).cell 1
  go_wp2_with fail
  generalize w9.alloc (.cells #[.slice Aa2 na2 ca2, .slice Aa3 na3 ca3] 30) = w10 at *
  refine wp_region_L (fun v => v.cell? ⟨w9.heap.size, 0, none⟩ = some (.slice Aa2 na2 ca2) ∧ v.cell? ⟨w9.heap.size, 1, none⟩ = some (.slice Aa3 na3 ca3)) 7 (by kernel_rfl) ?_
  clear f18 f19
  replace S := S.keep ((Below.refl _ _).drew)
  replace c := c.drew
  generalize w10.drew = w11 at *
  have HF : w11.cell? ⟨w9.heap.size, 0, none⟩ = some (.slice Aa2 na2 ca2) ∧ w11.cell? ⟨w9.heap.size, 1, none⟩ = some (.slice Aa3 na3 ca3) := ⟨(S.at_ 0 rfl).cell 0, (S.at_ 0 rfl).cell 1⟩
  refine wpAnyL_take (i := 0) (v := ?_) rfl rfl (by kernel_rfl) (by kernel_rfl) (by kernel_rfl) (by kernel_rfl) (by kernel_rfl) (fun _ _ _ h => h) HF (Or.inl ⟨by rfl, ?_⟩) ?_
  rotate_left 1
  · (rintro v ⟨a0, a1⟩; go_simp; try with_reducible rfl)
  try simp only [Act.put]
  refine wpAnyL_take (i := 1) (v := ?_) rfl rfl (by kernel_rfl) (by kernel_rfl) (by kernel_rfl) (by kernel_rfl) (by kernel_rfl) (fun _ _ _ h => h) HF (Or.inl ⟨by rfl, ?_⟩) ?_
  rotate_left 1
  · (rintro v ⟨a0, a1⟩; go_simp; try with_reducible rfl)
  try simp only [Act.put]
  refine wpAnyL_take (i := 2) (v := ?_) rfl rfl (by kernel_rfl) (by kernel_rfl) (by kernel_rfl) (by kernel_rfl) (by kernel_rfl) (fun _ _ _ h => h) HF (Or.inl ⟨by rfl, ?_⟩) ?_
  rotate_left 1
  · (rintro v ⟨a0, a1⟩; go_simp; try with_reducible rfl)
  try simp only [Act.put]
  refine wpAnyL_take (i := 3) (v := ?_) rfl rfl (by kernel_rfl) (by kernel_rfl) (by kernel_rfl) (by kernel_rfl) (by kernel_rfl) (fun _ _ _ h => h) HF (Or.inl ⟨by rfl, ?_⟩) ?_
  rotate_left 1
  · (rintro v ⟨a0, a1⟩; go_simp; try with_reducible rfl)
  try simp only [Act.put]
  refine wpAnyL_step (i := 4) (by kernel_rfl) rfl rfl ?_
  intro K hK
  go_simp
  refine (iFates1 _ _ _ fs _ ((hi.below c).up c.size) ho).mono ?_
  rintro e w12 ⟨Aq0, nq0, cq0, rfl, o, b⟩
  obtain ⟨fp_q, S'⟩ := S.has b o.has c.size
  replace c := c.trans (b.mono c.size)
  clear S; have S := S'; clear S' o b
  clear HF
  have HF : w12.cell? ⟨w9.heap.size, 0, none⟩ = some (.slice Aa2 na2 ca2) ∧ w12.cell? ⟨w9.heap.size, 1, none⟩ = some (.slice Aa3 na3 ca3) := ⟨(S.at_ 1 rfl).cell 0, (S.at_ 1 rfl).cell 1⟩
  refine hK _ _ (fun _ => HF) ?_
  clear hK K
  try simp only [Act.put]
  refine wpAnyL_step (i := 5) (by kernel_rfl) rfl rfl ?_
  intro K hK
  go_simp
  refine (iFallen_any _ _ _ _ _ _ t.b _ _ _ _ _ ((hb.keep c).up c.size) hsb ((S.own_ 0 rfl).rd) hz1).mono ?_
  rintro e w13 ⟨Ay0, ny0, cy0, Ay1, ny1, cy1, rfl, o, b⟩
  obtain ⟨fp_y, S'⟩ := S.has b o c.size
  replace c := c.trans (b.mono c.size)
  clear S; have S := S'; clear S' o b
  clear HF
  have HF : w13.cell? ⟨w9.heap.size, 0, none⟩ = some (.slice Aa2 na2 ca2) ∧ w13.cell? ⟨w9.heap.size, 1, none⟩ = some (.slice Aa3 na3 ca3) := ⟨(S.at_ 2 rfl).cell 0, (S.at_ 2 rfl).cell 1⟩
  refine hK _ _ (fun _ => HF) ?_
  clear hK K
  try simp only [Act.put]
  refine wpAnyL_step (i := 6) (by kernel_rfl) rfl rfl ?_
  intro K hK
  go_simp
  refine hK _ _ (fun _ => HF) ?_
  clear hK K
  try simp only [Act.put]
  have f20 : w13.cell? ⟨w3.heap.size, 2, none⟩ = some (.slice Aa2 na2 ca2) := (S.at_ 6 rfl).cell 2
  have f21 := (S.at_ 6 rfl).free 2
  have f22 : w13.cell? ⟨w3.heap.size, 3, none⟩ = some (.slice Aa3 na3 ca3) := (S.at_ 6 rfl).cell 3
  have f23 := (S.at_ 6 rfl).free 3
  replace c := c.setCell (p := ⟨w3.heap.size, 2, none⟩) (S.base_le 6 rfl) (.slice Ay0 ny0 cy0)
  replace S := S.put 6 rfl 2 (.slice Ay0 ny0 cy0)
  replace c := c.setCell (p := ⟨w3.heap.size, 3, none⟩) (S.base_le 6 rfl) (.slice Ay1 ny1 cy1)
  replace S := S.put 6 rfl 3 (.slice Ay1 ny1 cy1)
  refine wpAnyL_step (i := 7) (by kernel_rfl) rfl rfl ?_
  intro K hK
  go_simp
  refine hK _ _ (fun h => nomatch (show true = false from h)) ?_
  clear hK K
  try simp only [Act.put]
  refine wpAnyL_done (by kernel_rfl) ?_ _
  go_wp2
  rw [rounds_succ]
  generalize (w13.setCell ⟨w3.heap.size, 2, none⟩ (.slice Ay0 ny0 cy0)).setCell ⟨w3.heap.size, 3, none⟩ (.slice Ay1 ny1 cy1) = w14 at *
  clear HF
  clear f20 f21 f22 f23
  have f24 : w14.cell? ⟨w3.heap.size, 0, none⟩ = some (.slice Au0 nu0 cu0) := (S.at_ 6 rfl).cell 0
  have f25 : w14.cell? ⟨w3.heap.size, 1, none⟩ = some (.slice Au1 nu1 cu1) := (S.at_ 6 rfl).cell 1
  have f26 : w14.cell? ⟨w3.heap.size, 2, none⟩ = some (.slice Ay0 ny0 cy0) := (S.at_ 6 rfl).cell 2
  have f27 : w14.cell? ⟨w3.heap.size, 3, none⟩ = some (.slice Ay1 ny1 cy1) := (S.at_ 6 rfl).cell 3
  go_wp2_with fail
  refine (iTwoOf_any _ _ _ _ _ _ _ _ _ _ _ _ _).mono ?_
  rintro e w15 ⟨rfl, b⟩
  replace c := c.trans (b.mono c.size)
  replace S := S.keep b
  clear b f24 f25 f26 f27
  have f28 : w15.cell? ⟨w.heap.size + 1, 0, none⟩ = some (.slice none 0 0) := (S.at_ 7 rfl).cell 0
  have f29 := (S.at_ 7 rfl).free 0
  have f30 : w15.cell? ⟨w.heap.size + 1, 1, none⟩ = some (.slice none 0 0) := (S.at_ 7 rfl).cell 1
  have f31 := (S.at_ 7 rfl).free 1
  have f32 : w15.cell? ⟨w.heap.size + 1, 2, none⟩ = some (.slice none 0 0) := (S.at_ 7 rfl).cell 2
  have f33 := (S.at_ 7 rfl).free 2
  have f34 : w15.cell? ⟨w.heap.size + 1, 3, none⟩ = some (.slice none 0 0) := (S.at_ 7 rfl).cell 3
  have f35 := (S.at_ 7 rfl).free 3
  replace S := S.put 7 rfl 0 (.slice Au0 nu0 cu0)
  replace c := c.setCell (p := ⟨w.heap.size + 1, 0, none⟩) (by show w.heap.size ≤ w.heap.size + 1; omega) (.slice Au0 nu0 cu0)
  replace S := S.put 7 rfl 1 (.slice Au1 nu1 cu1)
  replace c := c.setCell (p := ⟨w.heap.size + 1, 1, none⟩) (by show w.heap.size ≤ w.heap.size + 1; omega) (.slice Au1 nu1 cu1)
  replace S := S.put 7 rfl 2 (.slice Ay0 ny0 cy0)
  replace c := c.setCell (p := ⟨w.heap.size + 1, 2, none⟩) (by show w.heap.size ≤ w.heap.size + 1; omega) (.slice Ay0 ny0 cy0)
  replace S := S.put 7 rfl 3 (.slice Ay1 ny1 cy1)
  replace c := c.setCell (p := ⟨w.heap.size + 1, 3, none⟩) (by show w.heap.size ≤ w.heap.size + 1; omega) (.slice Ay1 ny1 cy1)
  replace S := S.sub (.cons_cons _ (.cons _ (.cons _ (.cons_cons _ (List.nil_sublist _)))))
  have H := Lib.hid S.pair
  have C := Lib.hid c
  clear S c
  go_wp2
  exact bodyPost_ret (v := .agg #[.slice Au0 nu0 cu0, .slice Au1 nu1 cu1, .slice Ay0 ny0 cy0, .slice Ay1 ny1 cy1]) (by simp [results, Try.results25, go_sem, f28, f30, f32, f34]) rfl ⟨_, _, _, _, _, _, _, _, _, _, _, _, rfl, by rw [HR.out]; exact H.out, C.out⟩

end Go.Proofs.Ytejcpoidoekleaa
