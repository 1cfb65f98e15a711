/-
  The model of chapter 4: crashes, writes, repairs.
-/
import Derived.Test.YtejcpoidoekleaaTwoS1
import Derived.Test.YtejcpoidoekleaaKT
import Derived.Test.YtejcpoidoekleaaKS2
namespace Go.Proofs.Ytejcpoidoekleaa
set_option maxRecDepth 100000
open Go.RowKit

theorem foots_sub {is' is : List Item} (h : is'.Sublist is) : (foots is').Sublist (foots is) := by
  induction h with
  | slnil => exact List.Sublist.refl _
  | cons a _ ih => exact List.Sublist.trans ih (List.sublist_append_right _ _)
  | cons_cons a _ ih => exact List.Sublist.append (List.Sublist.refl a.foot) ih
/-- Some of the pieces. -/
theorem Sep.sub {w : World} {base : Nat} {is is' : List Item} (h : Sep w base is) (hs : is'.Sublist is) : Sep w base is' := by
  refine ⟨fun n i hi => ?_, List.Nodup.sublist (foots_sub hs) h.nodup, fun p hp => h.ge p ((foots_sub hs).subset hp)⟩
  obtain ⟨k, hk⟩ := List.getElem?_of_mem (hs.subset (List.mem_of_getElem? hi))
  exact h.holds k i hk
theorem second_le (xs : List Int) (k : Nat) : (second xs k).length ≤ xs.length + 1 := by rw [second_len]; omega
theorem sFates0 (E : Option Addr) (o co : Nat) (fs : List Int) (w : World) (h : IRow w w.heap.size E o fs) (ho : o ≤ 1048577) :
    Calls Try.prog 83 #[.slice E o co, .int .i64 0] w (MadeRow w ((second fs 0).take 60)) := sFates_any E o co fs 0 w h ho (by omega)
theorem sFates1 (E : Option Addr) (o co : Nat) (fs : List Int) (w : World) (h : IRow w w.heap.size E o fs) (ho : o ≤ 1048577) :
    Calls Try.prog 83 #[.slice E o co, .int .i64 1] w (MadeRow w ((second fs 1).take 60)) := sFates_any E o co fs 1 w h ho (by omega)

set_option maxHeartbeats 12800000 in
theorem sBothFallen_any (Aa0 : Option Addr) (na0 ca0 : Nat) (Aa1 : Option Addr) (na1 ca1 : Nat) (Aa2 : Option Addr) (na2 ca2 : Nat) (Aa3 : Option Addr) (na3 ca3 : Nat) (t : TwoM) (E : Option Addr) (o co : Nat) (fs : List Int) (w : World) (h : Rd w w.heap.size t.cells [.slice Aa0 na0 ca0, .slice Aa1 na1 ca1, .slice Aa2 na2 ca2, .slice Aa3 na3 ca3]) (hs : t.sz ≤ 1048576) (h2 : Rd w w.heap.size (rowCells fs) [.slice E o co]) (hs2 : fs.length ≤ 1048576) :
    Calls Try.prog 41 #[.agg #[.slice Aa0 na0 ca0, .slice Aa1 na1 ca1, .slice Aa2 na2 ca2, .slice Aa3 na3 ca3], .slice E o co] w (MadeT w (bothFallen t fs)) := by
  obtain ⟨ha, hb⟩ := h.halves
  have hsa : t.a.sz ≤ 1048576 := by unfold TwoM.sz at hs; omega
  have hsb : t.b.sz ≤ 1048576 := by unfold TwoM.sz at hs; omega
  obtain ⟨_, _, _, e, hi, _⟩ := h2.irow
  injection e with e1 e2 e3
  subst e1 e2 e3
  have ho : o ≤ 1048577 := by rw [← hi.1]; omega
  have hz0 : ((second fs 0).take 60).length ≤ 1048576 := by rw [List.length_take]; omega
  have hz1 : ((second fs 1).take 60).length ≤ 1048576 := by rw [List.length_take]; omega
  cases hok : twoOk t
  case false =>
    have HR := Lib.hid (show bothFallen t fs = zeroT by simp [bothFallen, hok])
    have HT := Lib.hid hok
    clear hok
    have S := Sep.nil w w.heap.size
    have c := Below.refl w.heap.size w
    replace S := S.boxAt c.size (w.heap.size) rfl #[.slice Aa0 na0 ca0, .slice Aa1 na1 ca1, .slice Aa2 na2 ca2, .slice Aa3 na3 ca3] 32
    replace c := c.alloc c.size (.cells #[.slice Aa0 na0 ca0, .slice Aa1 na1 ca1, .slice Aa2 na2 ca2, .slice Aa3 na3 ca3] 32)
    replace S := S.boxAt c.size (w.heap.size + 1) (by simp) #[.slice none 0 0, .slice none 0 0, .slice none 0 0, .slice none 0 0] 32
    replace c := c.alloc c.size (.cells #[.slice none 0 0, .slice none 0 0, .slice none 0 0, .slice none 0 0] 32)
    go_enter Try.func41, Try.ntmps41
    have f0 : ((w.alloc (.cells #[.slice Aa0 na0 ca0, .slice Aa1 na1 ca1, .slice Aa2 na2 ca2, .slice Aa3 na3 ca3] 32)).alloc (.cells #[.slice none 0 0, .slice none 0 0, .slice none 0 0, .slice none 0 0] 32)).cell? ⟨w.heap.size, 0, none⟩ = some (.slice Aa0 na0 ca0) := (S.at_ 1 rfl).cell 0
    have f1 : ((w.alloc (.cells #[.slice Aa0 na0 ca0, .slice Aa1 na1 ca1, .slice Aa2 na2 ca2, .slice Aa3 na3 ca3] 32)).alloc (.cells #[.slice none 0 0, .slice none 0 0, .slice none 0 0, .slice none 0 0] 32)).cell? ⟨w.heap.size, 1, none⟩ = some (.slice Aa1 na1 ca1) := (S.at_ 1 rfl).cell 1
    have f2 : ((w.alloc (.cells #[.slice Aa0 na0 ca0, .slice Aa1 na1 ca1, .slice Aa2 na2 ca2, .slice Aa3 na3 ca3] 32)).alloc (.cells #[.slice none 0 0, .slice none 0 0, .slice none 0 0, .slice none 0 0] 32)).cell? ⟨w.heap.size, 2, none⟩ = some (.slice Aa2 na2 ca2) := (S.at_ 1 rfl).cell 2
    have f3 : ((w.alloc (.cells #[.slice Aa0 na0 ca0, .slice Aa1 na1 ca1, .slice Aa2 na2 ca2, .slice Aa3 na3 ca3] 32)).alloc (.cells #[.slice none 0 0, .slice none 0 0, .slice none 0 0, .slice none 0 0] 32)).cell? ⟨w.heap.size, 3, none⟩ = some (.slice Aa3 na3 ca3) := (S.at_ 1 rfl).cell 3
    go_wp2_with fail
    generalize (w.alloc (.cells #[.slice Aa0 na0 ca0, .slice Aa1 na1 ca1, .slice Aa2 na2 ca2, .slice Aa3 na3 ca3] 32)).alloc (.cells #[.slice none 0 0, .slice none 0 0, .slice none 0 0, .slice none 0 0] 32) = w1 at *
    refine (sTwoOk_any _ _ _ _ _ _ _ _ _ _ _ _ t _ _ (h.keep c) c.size (by omega)).mono ?_
    rintro e w2 ⟨rfl, b⟩
    replace c := c.trans (b.mono c.size)
    replace S := S.keep b
    clear b f0 f1 f2 f3
    rw [HT.out]
    have f4 : w2.cell? ⟨w.heap.size + 1, 0, none⟩ = some (.slice none 0 0) := (S.at_ 0 rfl).cell 0
    have f5 := (S.at_ 0 rfl).free 0
    have f6 : w2.cell? ⟨w.heap.size + 1, 1, none⟩ = some (.slice none 0 0) := (S.at_ 0 rfl).cell 1
    have f7 := (S.at_ 0 rfl).free 1
    have f8 : w2.cell? ⟨w.heap.size + 1, 2, none⟩ = some (.slice none 0 0) := (S.at_ 0 rfl).cell 2
    have f9 := (S.at_ 0 rfl).free 2
    have f10 : w2.cell? ⟨w.heap.size + 1, 3, none⟩ = some (.slice none 0 0) := (S.at_ 0 rfl).cell 3
    have f11 := (S.at_ 0 rfl).free 3
    replace S := S.put 0 rfl 0 (.slice none 0 0)
    replace c := c.setCell (p := ⟨w.heap.size + 1, 0, none⟩) (by show w.heap.size ≤ w.heap.size + 1; omega) (.slice none 0 0)
    replace S := S.put 0 rfl 1 (.slice none 0 0)
    replace c := c.setCell (p := ⟨w.heap.size + 1, 1, none⟩) (by show w.heap.size ≤ w.heap.size + 1; omega) (.slice none 0 0)
    replace S := S.put 0 rfl 2 (.slice none 0 0)
    replace c := c.setCell (p := ⟨w.heap.size + 1, 2, none⟩) (by show w.heap.size ≤ w.heap.size + 1; omega) (.slice none 0 0)
    replace S := S.put 0 rfl 3 (.slice none 0 0)
    replace c := c.setCell (p := ⟨w.heap.size + 1, 3, none⟩) (by show w.heap.size ≤ w.heap.size + 1; omega) (.slice none 0 0)
    have C := Lib.hid c
    clear S c h
    go_wp2
    exact bodyPost_ret (v := .agg #[.slice none 0 0, .slice none 0 0, .slice none 0 0, .slice none 0 0]) (by simp [results, Try.results41, go_sem, f4, f6, f8, f10]) rfl ⟨_, _, _, _, _, _, _, _, _, _, _, _, rfl, by rw [HR.out]; exact has_zeroT _ _, C.out⟩
  have HR := Lib.hid (show bothFallen t fs = ⟨fallen t.a ((second fs 0).take 60), fallen t.b ((second fs 1).take 60)⟩ by
    obtain ⟨h1, h2, _⟩ := twoOk_iff.1 hok
    simp [bothFallen, hok, fallen_take h1, fallen_take h2])
  have HT := Lib.hid hok
  clear hok
  have S := Sep.nil w w.heap.size
  have c := Below.refl w.heap.size w
  replace S := S.boxAt c.size (w.heap.size) rfl #[.slice Aa0 na0 ca0, .slice Aa1 na1 ca1, .slice Aa2 na2 ca2, .slice Aa3 na3 ca3] 32
  replace c := c.alloc c.size (.cells #[.slice Aa0 na0 ca0, .slice Aa1 na1 ca1, .slice Aa2 na2 ca2, .slice Aa3 na3 ca3] 32)
  replace S := S.boxAt c.size (w.heap.size + 1) (by simp) #[.slice none 0 0, .slice none 0 0, .slice none 0 0, .slice none 0 0] 32
  replace c := c.alloc c.size (.cells #[.slice none 0 0, .slice none 0 0, .slice none 0 0, .slice none 0 0] 32)
  go_enter Try.func41, Try.ntmps41
  have f0 : ((w.alloc (.cells #[.slice Aa0 na0 ca0, .slice Aa1 na1 ca1, .slice Aa2 na2 ca2, .slice Aa3 na3 ca3] 32)).alloc (.cells #[.slice none 0 0, .slice none 0 0, .slice none 0 0, .slice none 0 0] 32)).cell? ⟨w.heap.size, 0, none⟩ = some (.slice Aa0 na0 ca0) := (S.at_ 1 rfl).cell 0
  have f1 : ((w.alloc (.cells #[.slice Aa0 na0 ca0, .slice Aa1 na1 ca1, .slice Aa2 na2 ca2, .slice Aa3 na3 ca3] 32)).alloc (.cells #[.slice none 0 0, .slice none 0 0, .slice none 0 0, .slice none 0 0] 32)).cell? ⟨w.heap.size, 1, none⟩ = some (.slice Aa1 na1 ca1) := (S.at_ 1 rfl).cell 1
  have f2 : ((w.alloc (.cells #[.slice Aa0 na0 ca0, .slice Aa1 na1 ca1, .slice Aa2 na2 ca2, .slice Aa3 na3 ca3] 32)).alloc (.cells #[.slice none 0 0, .slice none 0 0, .slice none 0 0, .slice none 0 0] 32)).cell? ⟨w.heap.size, 2, none⟩ = some (.slice Aa2 na2 ca2) := (S.at_ 1 rfl).cell 2
  have f3 : ((w.alloc (.cells #[.slice Aa0 na0 ca0, .slice Aa1 na1 ca1, .slice Aa2 na2 ca2, .slice Aa3 na3 ca3] 32)).alloc (.cells #[.slice none 0 0, .slice none 0 0, .slice none 0 0, .slice none 0 0] 32)).cell? ⟨w.heap.size, 3, none⟩ = some (.slice Aa3 na3 ca3) := (S.at_ 1 rfl).cell 3
  go_wp2_with fail
  generalize (w.alloc (.cells #[.slice Aa0 na0 ca0, .slice Aa1 na1 ca1, .slice Aa2 na2 ca2, .slice Aa3 na3 ca3] 32)).alloc (.cells #[.slice none 0 0, .slice none 0 0, .slice none 0 0, .slice none 0 0] 32) = w1 at *
  refine (sTwoOk_any _ _ _ _ _ _ _ _ _ _ _ _ t _ _ (h.keep c) c.size (by omega)).mono ?_
  rintro e w2 ⟨rfl, b⟩
  replace c := c.trans (b.mono c.size)
  replace S := S.keep b
  clear b f0 f1 f2 f3
  rw [HT.out]
  go_wp2_with fail
  refine wp_region_L (fun v => v.cell? ⟨w.heap.size, 0, none⟩ = some (.slice Aa0 na0 ca0) ∧ v.cell? ⟨w.heap.size, 1, none⟩ = some (.slice Aa1 na1 ca1) ∧ v.cell? ⟨w.heap.size, 2, none⟩ = some (.slice Aa2 na2 ca2) ∧ v.cell? ⟨w.heap.size, 3, none⟩ = some (.slice Aa3 na3 ca3)) 11 (by kernel_rfl) ?_
  replace S := S.keep ((Below.refl _ _).drew)
  replace c := c.drew
  generalize w2.drew = w3 at *
  have HF : w3.cell? ⟨w.heap.size, 0, none⟩ = some (.slice Aa0 na0 ca0) ∧ w3.cell? ⟨w.heap.size, 1, none⟩ = some (.slice Aa1 na1 ca1) ∧ w3.cell? ⟨w.heap.size, 2, none⟩ = some (.slice Aa2 na2 ca2) ∧ w3.cell? ⟨w.heap.size, 3, none⟩ = some (.slice Aa3 na3 ca3) := ⟨(S.at_ 1 rfl).cell 0, (S.at_ 1 rfl).cell 1, (S.at_ 1 rfl).cell 2, (S.at_ 1 rfl).cell 3⟩
  refine wpAnyL_take (i := 0) (v := ?_) rfl rfl (by kernel_rfl) (by kernel_rfl) (by kernel_rfl) (by kernel_rfl) (by kernel_rfl) (fun _ _ _ h => h) HF (Or.inl ⟨by rfl, ?_⟩) ?_
  rotate_left 1
  · (rintro v ⟨a0, a1, a2, a3⟩; go_simp; try with_reducible rfl)
  try simp only [Act.put]
  refine wpAnyL_take (i := 1) (v := ?_) rfl rfl (by kernel_rfl) (by kernel_rfl) (by kernel_rfl) (by kernel_rfl) (by kernel_rfl) (fun _ _ _ h => h) HF (Or.inl ⟨by rfl, ?_⟩) ?_
  rotate_left 1
  · (rintro v ⟨a0, a1, a2, a3⟩; go_simp; try with_reducible rfl)
  try simp only [Act.put]
  refine wpAnyL_take (i := 2) (v := ?_) rfl rfl (by kernel_rfl) (by kernel_rfl) (by kernel_rfl) (by kernel_rfl) (by kernel_rfl) (fun _ _ _ h => h) HF (Or.inl ⟨by rfl, ?_⟩) ?_
  rotate_left 1
  · (rintro v ⟨a0, a1, a2, a3⟩; go_simp; try with_reducible rfl)
  try simp only [Act.put]
  refine wpAnyL_take (i := 5) (v := ?_) rfl rfl (by kernel_rfl) (by kernel_rfl) (by kernel_rfl) (by kernel_rfl) (by kernel_rfl) (fun _ _ _ h => h) HF (Or.inl ⟨by rfl, ?_⟩) ?_
  rotate_left 1
  · (rintro v ⟨a0, a1, a2, a3⟩; go_simp; try with_reducible rfl)
  try simp only [Act.put]
  refine wpAnyL_take (i := 6) (v := ?_) rfl rfl (by kernel_rfl) (by kernel_rfl) (by kernel_rfl) (by kernel_rfl) (by kernel_rfl) (fun _ _ _ h => h) HF (Or.inl ⟨by rfl, ?_⟩) ?_
  rotate_left 1
  · (rintro v ⟨a0, a1, a2, a3⟩; go_simp; try with_reducible rfl)
  try simp only [Act.put]
  refine wpAnyL_take (i := 7) (v := ?_) rfl rfl (by kernel_rfl) (by kernel_rfl) (by kernel_rfl) (by kernel_rfl) (by kernel_rfl) (fun _ _ _ h => h) HF (Or.inl ⟨by rfl, ?_⟩) ?_
  rotate_left 1
  · (rintro v ⟨a0, a1, a2, a3⟩; go_simp; try with_reducible rfl)
  try simp only [Act.put]
  refine wpAnyL_step (i := 3) (by kernel_rfl) rfl rfl ?_
  intro K hK
  go_simp
  refine (sFates0 _ _ _ fs _ ((hi.below c).up c.size) ho).mono ?_
  rintro e w4 ⟨Ap0, np0, cp0, rfl, o, b⟩
  obtain ⟨fp_p, S'⟩ := S.has b o.has c.size
  replace c := c.trans (b.mono c.size)
  clear S; have S := S'; clear S' o b
  clear HF
  have HF : w4.cell? ⟨w.heap.size, 0, none⟩ = some (.slice Aa0 na0 ca0) ∧ w4.cell? ⟨w.heap.size, 1, none⟩ = some (.slice Aa1 na1 ca1) ∧ w4.cell? ⟨w.heap.size, 2, none⟩ = some (.slice Aa2 na2 ca2) ∧ w4.cell? ⟨w.heap.size, 3, none⟩ = some (.slice Aa3 na3 ca3) := ⟨(S.at_ 2 rfl).cell 0, (S.at_ 2 rfl).cell 1, (S.at_ 2 rfl).cell 2, (S.at_ 2 rfl).cell 3⟩
  refine hK _ _ (fun _ => HF) ?_
  clear hK K
  try simp only [Act.put]
  refine wpAnyL_step (i := 4) (by kernel_rfl) rfl rfl ?_
  intro K hK
  go_simp
  refine (sFallen_any _ _ _ _ _ _ t.a _ _ _ _ _ ((ha.keep c).up c.size) hsa ((S.own_ 0 rfl).rd) hz0).mono ?_
  rintro e w5 ⟨Au0, nu0, cu0, Au1, nu1, cu1, rfl, o, b⟩
  obtain ⟨fp_u, S'⟩ := S.has b o c.size
  replace c := c.trans (b.mono c.size)
  clear S; have S := S'; clear S' o b
  clear HF
  have HF : w5.cell? ⟨w.heap.size, 0, none⟩ = some (.slice Aa0 na0 ca0) ∧ w5.cell? ⟨w.heap.size, 1, none⟩ = some (.slice Aa1 na1 ca1) ∧ w5.cell? ⟨w.heap.size, 2, none⟩ = some (.slice Aa2 na2 ca2) ∧ w5.cell? ⟨w.heap.size, 3, none⟩ = some (.slice Aa3 na3 ca3) := ⟨(S.at_ 3 rfl).cell 0, (S.at_ 3 rfl).cell 1, (S.at_ 3 rfl).cell 2, (S.at_ 3 rfl).cell 3⟩
  refine hK _ _ (fun _ => HF) ?_
  clear hK K
  try simp only [Act.put]
  refine wpAnyL_step (i := 8) (by kernel_rfl) rfl rfl ?_
  intro K hK
  go_simp
  refine (sFates1 _ _ _ fs _ ((hi.below c).up c.size) ho).mono ?_
  rintro e w6 ⟨Aq0, nq0, cq0, rfl, o, b⟩
  obtain ⟨fp_q, S'⟩ := S.has b o.has c.size
  replace c := c.trans (b.mono c.size)
  clear S; have S := S'; clear S' o b
  clear HF
  have HF : w6.cell? ⟨w.heap.size, 0, none⟩ = some (.slice Aa0 na0 ca0) ∧ w6.cell? ⟨w.heap.size, 1, none⟩ = some (.slice Aa1 na1 ca1) ∧ w6.cell? ⟨w.heap.size, 2, none⟩ = some (.slice Aa2 na2 ca2) ∧ w6.cell? ⟨w.heap.size, 3, none⟩ = some (.slice Aa3 na3 ca3) := ⟨(S.at_ 4 rfl).cell 0, (S.at_ 4 rfl).cell 1, (S.at_ 4 rfl).cell 2, (S.at_ 4 rfl).cell 3⟩
  refine hK _ _ (fun _ => HF) ?_
  clear hK K
  try simp only [Act.put]
  refine wpAnyL_step (i := 9) (by kernel_rfl) rfl rfl ?_
  intro K hK
  go_simp
  refine (sFallen_any _ _ _ _ _ _ t.b _ _ _ _ _ ((hb.keep c).up c.size) hsb ((S.own_ 0 rfl).rd) hz1).mono ?_
  rintro e w7 ⟨Ay0, ny0, cy0, Ay1, ny1, cy1, rfl, o, b⟩
  obtain ⟨fp_y, S'⟩ := S.has b o c.size
  replace c := c.trans (b.mono c.size)
  clear S; have S := S'; clear S' o b
  clear HF
  have HF : w7.cell? ⟨w.heap.size, 0, none⟩ = some (.slice Aa0 na0 ca0) ∧ w7.cell? ⟨w.heap.size, 1, none⟩ = some (.slice Aa1 na1 ca1) ∧ w7.cell? ⟨w.heap.size, 2, none⟩ = some (.slice Aa2 na2 ca2) ∧ w7.cell? ⟨w.heap.size, 3, none⟩ = some (.slice Aa3 na3 ca3) := ⟨(S.at_ 5 rfl).cell 0, (S.at_ 5 rfl).cell 1, (S.at_ 5 rfl).cell 2, (S.at_ 5 rfl).cell 3⟩
  refine hK _ _ (fun _ => HF) ?_
  clear hK K
  try simp only [Act.put]
  refine wpAnyL_step (i := 10) (by kernel_rfl) rfl rfl ?_
  intro K hK
  go_simp
  refine hK _ _ (fun _ => HF) ?_
  clear hK K
  try simp only [Act.put]
  replace S := S.sub (.cons_cons _ (.cons _ (.cons_cons _ (.cons _ (.cons_cons _ (.cons_cons _ (List.nil_sublist _)))))))
  have f4 : w7.cell? ⟨w.heap.size + 1, 0, none⟩ = some (.slice none 0 0) := (S.at_ 2 rfl).cell 0
  have f5 := (S.at_ 2 rfl).free 0
  have f6 : w7.cell? ⟨w.heap.size + 1, 1, none⟩ = some (.slice none 0 0) := (S.at_ 2 rfl).cell 1
  have f7 := (S.at_ 2 rfl).free 1
  have f8 : w7.cell? ⟨w.heap.size + 1, 2, none⟩ = some (.slice none 0 0) := (S.at_ 2 rfl).cell 2
  have f9 := (S.at_ 2 rfl).free 2
  have f10 : w7.cell? ⟨w.heap.size + 1, 3, none⟩ = some (.slice none 0 0) := (S.at_ 2 rfl).cell 3
  have f11 := (S.at_ 2 rfl).free 3
  replace S := S.put 2 rfl 0 (.slice Au0 nu0 cu0)
  replace c := c.setCell (p := ⟨w.heap.size + 1, 0, none⟩) (by show w.heap.size ≤ w.heap.size + 1; omega) (.slice Au0 nu0 cu0)
  replace S := S.put 2 rfl 1 (.slice Au1 nu1 cu1)
  replace c := c.setCell (p := ⟨w.heap.size + 1, 1, none⟩) (by show w.heap.size ≤ w.heap.size + 1; omega) (.slice Au1 nu1 cu1)
  replace S := S.put 2 rfl 2 (.slice Ay0 ny0 cy0)
  replace c := c.setCell (p := ⟨w.heap.size + 1, 2, none⟩) (by show w.heap.size ≤ w.heap.size + 1; omega) (.slice Ay0 ny0 cy0)
  replace S := S.put 2 rfl 3 (.slice Ay1 ny1 cy1)
  replace c := c.setCell (p := ⟨w.heap.size + 1, 3, none⟩) (by show w.heap.size ≤ w.heap.size + 1; omega) (.slice Ay1 ny1 cy1)
  have H := Lib.hid S.pair
  have C := Lib.hid c
  clear S c HF
  refine wpAnyL_step (i := 11) (by kernel_rfl) rfl rfl ?_
  intro K hK
  go_simp
  refine hK _ _ (fun h => nomatch (show true = false from h)) ?_
  clear hK K
  try simp only [Act.put]
  refine wpAnyL_done (by kernel_rfl) ?_ _
  go_wp2
  exact bodyPost_ret (v := .agg #[.slice Au0 nu0 cu0, .slice Au1 nu1 cu1, .slice Ay0 ny0 cy0, .slice Ay1 ny1 cy1]) (by simp [results, Try.results41, go_sem, f4, f6, f8, f10]) rfl ⟨_, _, _, _, _, _, _, _, _, _, _, _, rfl, by rw [HR.out]; exact H.out, C.out⟩

theorem rowCells_len {w : World} {xs : List Int} {A : Option Addr} {n c : Nat} {fp : List Nat} (h : Ow w (rowCells xs) [.slice A n c] fp) : xs.length = n := by
  obtain ⟨_, _, _, e, o, _⟩ := Ow.own h
  injection e with e1 e2 e3
  subst e1 e2 e3
  exact o.len
theorem withSum_len (r : List Int) : (withSum r).length ≤ 48 := by
  unfold withSum
  split
  · simp; omega
  · simp

set_option maxHeartbeats 12800000 in
theorem sBothWrote_any (Aa0 : Option Addr) (na0 ca0 : Nat) (Aa1 : Option Addr) (na1 ca1 : Nat) (Aa2 : Option Addr) (na2 ca2 : Nat) (Aa3 : Option Addr) (na3 ca3 : Nat) (t : TwoM) (i : Int) (E : Option Addr) (o co : Nat) (r : List Int) (w : World) (h : Rd w w.heap.size t.cells [.slice Aa0 na0 ca0, .slice Aa1 na1 ca1, .slice Aa2 na2 ca2, .slice Aa3 na3 ca3]) (hs : t.sz ≤ 1048576) (h2 : Rd w w.heap.size (rowCells r) [.slice E o co]) (hs2 : r.length ≤ 1048576) :
    Calls Try.prog 36 #[.agg #[.slice Aa0 na0 ca0, .slice Aa1 na1 ca1, .slice Aa2 na2 ca2, .slice Aa3 na3 ca3], .int .i64 i, .slice E o co] w fun e w' => ∃ A0 n0 c0 A1 n1 c1 A2 n2 c2 A3 n3 c3, e = .returned (.tuple #[.agg #[.slice A0 n0 c0, .slice A1 n1 c1, .slice A2 n2 c2, .slice A3 n3 c3], .bool (bothWrote t i r).2]) ∧ Has w' w.heap.size (bothWrote t i r).1.cells [.slice A0 n0 c0, .slice A1 n1 c1, .slice A2 n2 c2, .slice A3 n3 c3] ∧ Below w.heap.size w w' := by
  obtain ⟨ha, hb⟩ := h.halves
  have hsa : t.a.sz ≤ 1048576 := by unfold TwoM.sz at hs; omega
  have hsb : t.b.sz ≤ 1048576 := by unfold TwoM.sz at hs; omega
  obtain ⟨_, _, _, e, hi, _⟩ := h2.irow
  injection e with e1 e2 e3
  subst e1 e2 e3
  have ho : o ≤ 1048577 := by rw [← hi.1]; omega
  obtain ⟨s, hw⟩ : ∃ s, withSum r = s := ⟨_, rfl⟩
  have hsz : s.length ≤ 1048576 := by have := withSum_len r; rw [hw] at this; omega
  cases hok : twoOk t
  case false =>
    have HR := Lib.hid (show bothWrote t i r = (zeroT, false) by simp [bothWrote, hok])
    have HT := Lib.hid hok
    clear hok hw
    have S := Sep.nil w w.heap.size
    have c := Below.refl w.heap.size w
    replace S := S.boxAt c.size (w.heap.size) rfl #[.slice Aa0 na0 ca0, .slice Aa1 na1 ca1, .slice Aa2 na2 ca2, .slice Aa3 na3 ca3] 32
    replace c := c.alloc c.size (.cells #[.slice Aa0 na0 ca0, .slice Aa1 na1 ca1, .slice Aa2 na2 ca2, .slice Aa3 na3 ca3] 32)
    replace S := S.boxAt c.size (w.heap.size + 1) (by simp) #[.slice none 0 0, .slice none 0 0, .slice none 0 0, .slice none 0 0] 32
    replace c := c.alloc c.size (.cells #[.slice none 0 0, .slice none 0 0, .slice none 0 0, .slice none 0 0] 32)
    go_enter Try.func36, Try.ntmps36
    have f0 : ((w.alloc (.cells #[.slice Aa0 na0 ca0, .slice Aa1 na1 ca1, .slice Aa2 na2 ca2, .slice Aa3 na3 ca3] 32)).alloc (.cells #[.slice none 0 0, .slice none 0 0, .slice none 0 0, .slice none 0 0] 32)).cell? ⟨w.heap.size, 0, none⟩ = some (.slice Aa0 na0 ca0) := (S.at_ 1 rfl).cell 0
    have f1 : ((w.alloc (.cells #[.slice Aa0 na0 ca0, .slice Aa1 na1 ca1, .slice Aa2 na2 ca2, .slice Aa3 na3 ca3] 32)).alloc (.cells #[.slice none 0 0, .slice none 0 0, .slice none 0 0, .slice none 0 0] 32)).cell? ⟨w.heap.size, 1, none⟩ = some (.slice Aa1 na1 ca1) := (S.at_ 1 rfl).cell 1
    have f2 : ((w.alloc (.cells #[.slice Aa0 na0 ca0, .slice Aa1 na1 ca1, .slice Aa2 na2 ca2, .slice Aa3 na3 ca3] 32)).alloc (.cells #[.slice none 0 0, .slice none 0 0, .slice none 0 0, .slice none 0 0] 32)).cell? ⟨w.heap.size, 2, none⟩ = some (.slice Aa2 na2 ca2) := (S.at_ 1 rfl).cell 2
    have f3 : ((w.alloc (.cells #[.slice Aa0 na0 ca0, .slice Aa1 na1 ca1, .slice Aa2 na2 ca2, .slice Aa3 na3 ca3] 32)).alloc (.cells #[.slice none 0 0, .slice none 0 0, .slice none 0 0, .slice none 0 0] 32)).cell? ⟨w.heap.size, 3, none⟩ = some (.slice Aa3 na3 ca3) := (S.at_ 1 rfl).cell 3
    go_wp2_with fail
    generalize (w.alloc (.cells #[.slice Aa0 na0 ca0, .slice Aa1 na1 ca1, .slice Aa2 na2 ca2, .slice Aa3 na3 ca3] 32)).alloc (.cells #[.slice none 0 0, .slice none 0 0, .slice none 0 0, .slice none 0 0] 32) = w1 at *
    refine (sTwoOk_any _ _ _ _ _ _ _ _ _ _ _ _ t _ _ (h.keep c) c.size (by omega)).mono ?_
    rintro e w2 ⟨rfl, b⟩
    replace c := c.trans (b.mono c.size)
    replace S := S.keep b
    clear b f0 f1 f2 f3
    rw [HT.out]
    have f4 : w2.cell? ⟨w.heap.size + 1, 0, none⟩ = some (.slice none 0 0) := (S.at_ 0 rfl).cell 0
    have f5 := (S.at_ 0 rfl).free 0
    have f6 : w2.cell? ⟨w.heap.size + 1, 1, none⟩ = some (.slice none 0 0) := (S.at_ 0 rfl).cell 1
    have f7 := (S.at_ 0 rfl).free 1
    have f8 : w2.cell? ⟨w.heap.size + 1, 2, none⟩ = some (.slice none 0 0) := (S.at_ 0 rfl).cell 2
    have f9 := (S.at_ 0 rfl).free 2
    have f10 : w2.cell? ⟨w.heap.size + 1, 3, none⟩ = some (.slice none 0 0) := (S.at_ 0 rfl).cell 3
    have f11 := (S.at_ 0 rfl).free 3
    replace S := S.put 0 rfl 0 (.slice none 0 0)
    replace c := c.setCell (p := ⟨w.heap.size + 1, 0, none⟩) (by show w.heap.size ≤ w.heap.size + 1; omega) (.slice none 0 0)
    replace S := S.put 0 rfl 1 (.slice none 0 0)
    replace c := c.setCell (p := ⟨w.heap.size + 1, 1, none⟩) (by show w.heap.size ≤ w.heap.size + 1; omega) (.slice none 0 0)
    replace S := S.put 0 rfl 2 (.slice none 0 0)
    replace c := c.setCell (p := ⟨w.heap.size + 1, 2, none⟩) (by show w.heap.size ≤ w.heap.size + 1; omega) (.slice none 0 0)
    replace S := S.put 0 rfl 3 (.slice none 0 0)
    replace c := c.setCell (p := ⟨w.heap.size + 1, 3, none⟩) (by show w.heap.size ≤ w.heap.size + 1; omega) (.slice none 0 0)
    have C := Lib.hid c
    clear S c h
    go_wp2
    exact bodyPost_ret (v := .tuple #[.agg #[.slice none 0 0, .slice none 0 0, .slice none 0 0, .slice none 0 0], .bool false]) (by simp [results, Try.results36, go_sem, f4, f6, f8, f10]) rfl ⟨_, _, _, _, _, _, _, _, _, _, _, _, by rw [HR.out], by rw [HR.out]; exact has_zeroT _ _, C.out⟩
  have HW := Lib.hid hw
  by_cases hl : s.length = 0
  case pos =>
    have HR := Lib.hid (show bothWrote t i r = (t, false) by simp [bothWrote, hok, hw, List.eq_nil_of_length_eq_zero hl])
    have HT := Lib.hid hok
    clear hok hw
    have S := Sep.nil w w.heap.size
    have c := Below.refl w.heap.size w
    replace S := S.boxAt c.size (w.heap.size) rfl #[.slice Aa0 na0 ca0, .slice Aa1 na1 ca1, .slice Aa2 na2 ca2, .slice Aa3 na3 ca3] 32
    replace c := c.alloc c.size (.cells #[.slice Aa0 na0 ca0, .slice Aa1 na1 ca1, .slice Aa2 na2 ca2, .slice Aa3 na3 ca3] 32)
    replace S := S.boxAt c.size (w.heap.size + 1) (by simp) #[.slice none 0 0, .slice none 0 0, .slice none 0 0, .slice none 0 0] 32
    replace c := c.alloc c.size (.cells #[.slice none 0 0, .slice none 0 0, .slice none 0 0, .slice none 0 0] 32)
    go_enter Try.func36, Try.ntmps36
    have f0 : ((w.alloc (.cells #[.slice Aa0 na0 ca0, .slice Aa1 na1 ca1, .slice Aa2 na2 ca2, .slice Aa3 na3 ca3] 32)).alloc (.cells #[.slice none 0 0, .slice none 0 0, .slice none 0 0, .slice none 0 0] 32)).cell? ⟨w.heap.size, 0, none⟩ = some (.slice Aa0 na0 ca0) := (S.at_ 1 rfl).cell 0
    have f1 : ((w.alloc (.cells #[.slice Aa0 na0 ca0, .slice Aa1 na1 ca1, .slice Aa2 na2 ca2, .slice Aa3 na3 ca3] 32)).alloc (.cells #[.slice none 0 0, .slice none 0 0, .slice none 0 0, .slice none 0 0] 32)).cell? ⟨w.heap.size, 1, none⟩ = some (.slice Aa1 na1 ca1) := (S.at_ 1 rfl).cell 1
    have f2 : ((w.alloc (.cells #[.slice Aa0 na0 ca0, .slice Aa1 na1 ca1, .slice Aa2 na2 ca2, .slice Aa3 na3 ca3] 32)).alloc (.cells #[.slice none 0 0, .slice none 0 0, .slice none 0 0, .slice none 0 0] 32)).cell? ⟨w.heap.size, 2, none⟩ = some (.slice Aa2 na2 ca2) := (S.at_ 1 rfl).cell 2
    have f3 : ((w.alloc (.cells #[.slice Aa0 na0 ca0, .slice Aa1 na1 ca1, .slice Aa2 na2 ca2, .slice Aa3 na3 ca3] 32)).alloc (.cells #[.slice none 0 0, .slice none 0 0, .slice none 0 0, .slice none 0 0] 32)).cell? ⟨w.heap.size, 3, none⟩ = some (.slice Aa3 na3 ca3) := (S.at_ 1 rfl).cell 3
    go_wp2_with fail
    generalize (w.alloc (.cells #[.slice Aa0 na0 ca0, .slice Aa1 na1 ca1, .slice Aa2 na2 ca2, .slice Aa3 na3 ca3] 32)).alloc (.cells #[.slice none 0 0, .slice none 0 0, .slice none 0 0, .slice none 0 0] 32) = w1 at *
    refine (sTwoOk_any _ _ _ _ _ _ _ _ _ _ _ _ t _ _ (h.keep c) c.size (by omega)).mono ?_
    rintro e w2 ⟨rfl, b⟩
    replace c := c.trans (b.mono c.size)
    replace S := S.keep b
    clear b f0 f1 f2 f3
    rw [HT.out]
    go_wp2_with fail
    refine (sWith_any _ _ _ r _ ((hi.below c).up c.size) ho).mono ?_
    rintro e w3 ⟨As0, ns0, cs0, rfl, o, b⟩
    obtain ⟨fp_s, S'⟩ := S.has b o.has c.size
    replace c := c.trans (b.mono c.size)
    clear S; have S := S'; clear S' o b
    have ls : (withSum r).length = ns0 := rowCells_len (S.own_ 0 rfl)
    rw [HW.out] at S ls
    have f4 : w3.cell? ⟨w.heap.size, 0, none⟩ = some (.slice Aa0 na0 ca0) := (S.at_ 2 rfl).cell 0
    have f5 : w3.cell? ⟨w.heap.size, 1, none⟩ = some (.slice Aa1 na1 ca1) := (S.at_ 2 rfl).cell 1
    go_wp2_with fail
    refine (sWrote_any _ _ _ _ _ _ t.a i _ _ _ s _ ((ha.keep c).up c.size) hsa ((S.own_ 0 rfl).rd) hsz).mono ?_
    rintro e w4 ⟨Au0, nu0, cu0, Au1, nu1, cu1, rfl, o, b⟩
    obtain ⟨fp_u, S'⟩ := S.has b o c.size
    replace c := c.trans (b.mono c.size)
    clear S; have S := S'; clear S' o b f4 f5
    replace S := S.boxAt c.size (w4.heap.size) rfl #[.slice Au0 nu0 cu0, .slice Au1 nu1 cu1] 30
    replace c := c.alloc c.size (.cells #[.slice Au0 nu0 cu0, .slice Au1 nu1 cu1] 30)
    have f6 : (w4.alloc (.cells #[.slice Au0 nu0 cu0, .slice Au1 nu1 cu1] 30)).cell? ⟨w.heap.size, 2, none⟩ = some (.slice Aa2 na2 ca2) := (S.at_ 4 rfl).cell 2
    have f7 : (w4.alloc (.cells #[.slice Au0 nu0 cu0, .slice Au1 nu1 cu1] 30)).cell? ⟨w.heap.size, 3, none⟩ = some (.slice Aa3 na3 ca3) := (S.at_ 4 rfl).cell 3
    go_wp2_with fail
    generalize w4.alloc (.cells #[.slice Au0 nu0 cu0, .slice Au1 nu1 cu1] 30) = w5 at *
    refine (sWrote_any _ _ _ _ _ _ t.b i _ _ _ s _ ((hb.keep c).up c.size) hsb ((S.own_ 2 rfl).rd) hsz).mono ?_
    rintro e w6 ⟨Av0, nv0, cv0, Av1, nv1, cv1, rfl, o, b⟩
    obtain ⟨fp_v, S'⟩ := S.has b o c.size
    replace c := c.trans (b.mono c.size)
    clear S; have S := S'; clear S' o b f6 f7
    replace S := S.boxAt c.size (w6.heap.size) rfl #[.slice Av0 nv0 cv0, .slice Av1 nv1 cv1] 30
    replace c := c.alloc c.size (.cells #[.slice Av0 nv0 cv0, .slice Av1 nv1 cv1] 30)
    have q0 : (ns0 : Int) = 0 := by omega
    have f8 : (w6.alloc (.cells #[.slice Av0 nv0 cv0, .slice Av1 nv1 cv1] 30)).cell? ⟨w.heap.size, 0, none⟩ = some (.slice Aa0 na0 ca0) := (S.at_ 6 rfl).cell 0
    have f9 : (w6.alloc (.cells #[.slice Av0 nv0 cv0, .slice Av1 nv1 cv1] 30)).cell? ⟨w.heap.size, 1, none⟩ = some (.slice Aa1 na1 ca1) := (S.at_ 6 rfl).cell 1
    have f10 : (w6.alloc (.cells #[.slice Av0 nv0 cv0, .slice Av1 nv1 cv1] 30)).cell? ⟨w.heap.size, 2, none⟩ = some (.slice Aa2 na2 ca2) := (S.at_ 6 rfl).cell 2
    have f11 : (w6.alloc (.cells #[.slice Av0 nv0 cv0, .slice Av1 nv1 cv1] 30)).cell? ⟨w.heap.size, 3, none⟩ = some (.slice Aa3 na3 ca3) := (S.at_ 6 rfl).cell 3
    go_wp2_with fail
    generalize w6.alloc (.cells #[.slice Av0 nv0 cv0, .slice Av1 nv1 cv1] 30) = w7 at *
    refine (sCopyT_any _ _ _ _ _ _ _ _ _ _ _ _ t _ ((h.keep c).up c.size) hs).mono ?_
    rintro e w8 ⟨Az0, nz0, cz0, Az1, nz1, cz1, Az2, nz2, cz2, Az3, nz3, cz3, rfl, o, b⟩
    obtain ⟨fp_z, S'⟩ := S.has b o c.size
    replace c := c.trans (b.mono c.size)
    clear S; have S := S'; clear S' o b f8 f9 f10 f11
    have f12 : w8.cell? ⟨w.heap.size + 1, 0, none⟩ = some (.slice none 0 0) := (S.at_ 6 rfl).cell 0
    have f13 := (S.at_ 6 rfl).free 0
    have f14 : w8.cell? ⟨w.heap.size + 1, 1, none⟩ = some (.slice none 0 0) := (S.at_ 6 rfl).cell 1
    have f15 := (S.at_ 6 rfl).free 1
    have f16 : w8.cell? ⟨w.heap.size + 1, 2, none⟩ = some (.slice none 0 0) := (S.at_ 6 rfl).cell 2
    have f17 := (S.at_ 6 rfl).free 2
    have f18 : w8.cell? ⟨w.heap.size + 1, 3, none⟩ = some (.slice none 0 0) := (S.at_ 6 rfl).cell 3
    have f19 := (S.at_ 6 rfl).free 3
    replace S := S.put 6 rfl 0 (.slice Az0 nz0 cz0)
    replace c := c.setCell (p := ⟨w.heap.size + 1, 0, none⟩) (by show w.heap.size ≤ w.heap.size + 1; omega) (.slice Az0 nz0 cz0)
    replace S := S.put 6 rfl 1 (.slice Az1 nz1 cz1)
    replace c := c.setCell (p := ⟨w.heap.size + 1, 1, none⟩) (by show w.heap.size ≤ w.heap.size + 1; omega) (.slice Az1 nz1 cz1)
    replace S := S.put 6 rfl 2 (.slice Az2 nz2 cz2)
    replace c := c.setCell (p := ⟨w.heap.size + 1, 2, none⟩) (by show w.heap.size ≤ w.heap.size + 1; omega) (.slice Az2 nz2 cz2)
    replace S := S.put 6 rfl 3 (.slice Az3 nz3 cz3)
    replace c := c.setCell (p := ⟨w.heap.size + 1, 3, none⟩) (by show w.heap.size ≤ w.heap.size + 1; omega) (.slice Az3 nz3 cz3)
    have H := Lib.hid S.first
    have C := Lib.hid c
    clear S c h ha hb ls
    go_wp2
    exact bodyPost_ret (v := .tuple #[.agg #[.slice Az0 nz0 cz0, .slice Az1 nz1 cz1, .slice Az2 nz2 cz2, .slice Az3 nz3 cz3], .bool false]) (by simp [results, Try.results36, go_sem, f12, f14, f16, f18]) rfl ⟨_, _, _, _, _, _, _, _, _, _, _, _, by rw [HR.out], by rw [HR.out]; exact H.out, C.out⟩
  cases h1 : (wrote t.a i s).2
  case false =>
    have HR := Lib.hid (show bothWrote t i r = (t, false) by simp [bothWrote, hok, hw, h1])
    have HT := Lib.hid hok
    have H1 := Lib.hid h1
    clear hok hw h1
    have S := Sep.nil w w.heap.size
    have c := Below.refl w.heap.size w
    replace S := S.boxAt c.size (w.heap.size) rfl #[.slice Aa0 na0 ca0, .slice Aa1 na1 ca1, .slice Aa2 na2 ca2, .slice Aa3 na3 ca3] 32
    replace c := c.alloc c.size (.cells #[.slice Aa0 na0 ca0, .slice Aa1 na1 ca1, .slice Aa2 na2 ca2, .slice Aa3 na3 ca3] 32)
    replace S := S.boxAt c.size (w.heap.size + 1) (by simp) #[.slice none 0 0, .slice none 0 0, .slice none 0 0, .slice none 0 0] 32
    replace c := c.alloc c.size (.cells #[.slice none 0 0, .slice none 0 0, .slice none 0 0, .slice none 0 0] 32)
    go_enter Try.func36, Try.ntmps36
    have f0 : ((w.alloc (.cells #[.slice Aa0 na0 ca0, .slice Aa1 na1 ca1, .slice Aa2 na2 ca2, .slice Aa3 na3 ca3] 32)).alloc (.cells #[.slice none 0 0, .slice none 0 0, .slice none 0 0, .slice none 0 0] 32)).cell? ⟨w.heap.size, 0, none⟩ = some (.slice Aa0 na0 ca0) := (S.at_ 1 rfl).cell 0
    have f1 : ((w.alloc (.cells #[.slice Aa0 na0 ca0, .slice Aa1 na1 ca1, .slice Aa2 na2 ca2, .slice Aa3 na3 ca3] 32)).alloc (.cells #[.slice none 0 0, .slice none 0 0, .slice none 0 0, .slice none 0 0] 32)).cell? ⟨w.heap.size, 1, none⟩ = some (.slice Aa1 na1 ca1) := (S.at_ 1 rfl).cell 1
    have f2 : ((w.alloc (.cells #[.slice Aa0 na0 ca0, .slice Aa1 na1 ca1, .slice Aa2 na2 ca2, .slice Aa3 na3 ca3] 32)).alloc (.cells #[.slice none 0 0, .slice none 0 0, .slice none 0 0, .slice none 0 0] 32)).cell? ⟨w.heap.size, 2, none⟩ = some (.slice Aa2 na2 ca2) := (S.at_ 1 rfl).cell 2
    have f3 : ((w.alloc (.cells #[.slice Aa0 na0 ca0, .slice Aa1 na1 ca1, .slice Aa2 na2 ca2, .slice Aa3 na3 ca3] 32)).alloc (.cells #[.slice none 0 0, .slice none 0 0, .slice none 0 0, .slice none 0 0] 32)).cell? ⟨w.heap.size, 3, none⟩ = some (.slice Aa3 na3 ca3) := (S.at_ 1 rfl).cell 3
    go_wp2_with fail
    generalize (w.alloc (.cells #[.slice Aa0 na0 ca0, .slice Aa1 na1 ca1, .slice Aa2 na2 ca2, .slice Aa3 na3 ca3] 32)).alloc (.cells #[.slice none 0 0, .slice none 0 0, .slice none 0 0, .slice none 0 0] 32) = w1 at *
    refine (sTwoOk_any _ _ _ _ _ _ _ _ _ _ _ _ t _ _ (h.keep c) c.size (by omega)).mono ?_
    rintro e w2 ⟨rfl, b⟩
    replace c := c.trans (b.mono c.size)
    replace S := S.keep b
    clear b f0 f1 f2 f3
    rw [HT.out]
    go_wp2_with fail
    refine (sWith_any _ _ _ r _ ((hi.below c).up c.size) ho).mono ?_
    rintro e w3 ⟨As0, ns0, cs0, rfl, o, b⟩
    obtain ⟨fp_s, S'⟩ := S.has b o.has c.size
    replace c := c.trans (b.mono c.size)
    clear S; have S := S'; clear S' o b
    have ls : (withSum r).length = ns0 := rowCells_len (S.own_ 0 rfl)
    rw [HW.out] at S ls
    have f4 : w3.cell? ⟨w.heap.size, 0, none⟩ = some (.slice Aa0 na0 ca0) := (S.at_ 2 rfl).cell 0
    have f5 : w3.cell? ⟨w.heap.size, 1, none⟩ = some (.slice Aa1 na1 ca1) := (S.at_ 2 rfl).cell 1
    go_wp2_with fail
    refine (sWrote_any _ _ _ _ _ _ t.a i _ _ _ s _ ((ha.keep c).up c.size) hsa ((S.own_ 0 rfl).rd) hsz).mono ?_
    rintro e w4 ⟨Au0, nu0, cu0, Au1, nu1, cu1, rfl, o, b⟩
    obtain ⟨fp_u, S'⟩ := S.has b o c.size
    replace c := c.trans (b.mono c.size)
    clear S; have S := S'; clear S' o b f4 f5
    rw [H1.out]
    replace S := S.boxAt c.size (w4.heap.size) rfl #[.slice Au0 nu0 cu0, .slice Au1 nu1 cu1] 30
    replace c := c.alloc c.size (.cells #[.slice Au0 nu0 cu0, .slice Au1 nu1 cu1] 30)
    have f6 : (w4.alloc (.cells #[.slice Au0 nu0 cu0, .slice Au1 nu1 cu1] 30)).cell? ⟨w.heap.size, 2, none⟩ = some (.slice Aa2 na2 ca2) := (S.at_ 4 rfl).cell 2
    have f7 : (w4.alloc (.cells #[.slice Au0 nu0 cu0, .slice Au1 nu1 cu1] 30)).cell? ⟨w.heap.size, 3, none⟩ = some (.slice Aa3 na3 ca3) := (S.at_ 4 rfl).cell 3
    go_wp2_with fail
    generalize w4.alloc (.cells #[.slice Au0 nu0 cu0, .slice Au1 nu1 cu1] 30) = w5 at *
    refine (sWrote_any _ _ _ _ _ _ t.b i _ _ _ s _ ((hb.keep c).up c.size) hsb ((S.own_ 2 rfl).rd) hsz).mono ?_
    rintro e w6 ⟨Av0, nv0, cv0, Av1, nv1, cv1, rfl, o, b⟩
    obtain ⟨fp_v, S'⟩ := S.has b o c.size
    replace c := c.trans (b.mono c.size)
    clear S; have S := S'; clear S' o b f6 f7
    replace S := S.boxAt c.size (w6.heap.size) rfl #[.slice Av0 nv0 cv0, .slice Av1 nv1 cv1] 30
    replace c := c.alloc c.size (.cells #[.slice Av0 nv0 cv0, .slice Av1 nv1 cv1] 30)
    have q0 : ¬ ((ns0 : Int) = 0) := by omega
    have f8 : (w6.alloc (.cells #[.slice Av0 nv0 cv0, .slice Av1 nv1 cv1] 30)).cell? ⟨w.heap.size, 0, none⟩ = some (.slice Aa0 na0 ca0) := (S.at_ 6 rfl).cell 0
    have f9 : (w6.alloc (.cells #[.slice Av0 nv0 cv0, .slice Av1 nv1 cv1] 30)).cell? ⟨w.heap.size, 1, none⟩ = some (.slice Aa1 na1 ca1) := (S.at_ 6 rfl).cell 1
    have f10 : (w6.alloc (.cells #[.slice Av0 nv0 cv0, .slice Av1 nv1 cv1] 30)).cell? ⟨w.heap.size, 2, none⟩ = some (.slice Aa2 na2 ca2) := (S.at_ 6 rfl).cell 2
    have f11 : (w6.alloc (.cells #[.slice Av0 nv0 cv0, .slice Av1 nv1 cv1] 30)).cell? ⟨w.heap.size, 3, none⟩ = some (.slice Aa3 na3 ca3) := (S.at_ 6 rfl).cell 3
    go_wp2_with fail
    generalize w6.alloc (.cells #[.slice Av0 nv0 cv0, .slice Av1 nv1 cv1] 30) = w7 at *
    refine (sCopyT_any _ _ _ _ _ _ _ _ _ _ _ _ t _ ((h.keep c).up c.size) hs).mono ?_
    rintro e w8 ⟨Az0, nz0, cz0, Az1, nz1, cz1, Az2, nz2, cz2, Az3, nz3, cz3, rfl, o, b⟩
    obtain ⟨fp_z, S'⟩ := S.has b o c.size
    replace c := c.trans (b.mono c.size)
    clear S; have S := S'; clear S' o b f8 f9 f10 f11
    have f12 : w8.cell? ⟨w.heap.size + 1, 0, none⟩ = some (.slice none 0 0) := (S.at_ 6 rfl).cell 0
    have f13 := (S.at_ 6 rfl).free 0
    have f14 : w8.cell? ⟨w.heap.size + 1, 1, none⟩ = some (.slice none 0 0) := (S.at_ 6 rfl).cell 1
    have f15 := (S.at_ 6 rfl).free 1
    have f16 : w8.cell? ⟨w.heap.size + 1, 2, none⟩ = some (.slice none 0 0) := (S.at_ 6 rfl).cell 2
    have f17 := (S.at_ 6 rfl).free 2
    have f18 : w8.cell? ⟨w.heap.size + 1, 3, none⟩ = some (.slice none 0 0) := (S.at_ 6 rfl).cell 3
    have f19 := (S.at_ 6 rfl).free 3
    replace S := S.put 6 rfl 0 (.slice Az0 nz0 cz0)
    replace c := c.setCell (p := ⟨w.heap.size + 1, 0, none⟩) (by show w.heap.size ≤ w.heap.size + 1; omega) (.slice Az0 nz0 cz0)
    replace S := S.put 6 rfl 1 (.slice Az1 nz1 cz1)
    replace c := c.setCell (p := ⟨w.heap.size + 1, 1, none⟩) (by show w.heap.size ≤ w.heap.size + 1; omega) (.slice Az1 nz1 cz1)
    replace S := S.put 6 rfl 2 (.slice Az2 nz2 cz2)
    replace c := c.setCell (p := ⟨w.heap.size + 1, 2, none⟩) (by show w.heap.size ≤ w.heap.size + 1; omega) (.slice Az2 nz2 cz2)
    replace S := S.put 6 rfl 3 (.slice Az3 nz3 cz3)
    replace c := c.setCell (p := ⟨w.heap.size + 1, 3, none⟩) (by show w.heap.size ≤ w.heap.size + 1; omega) (.slice Az3 nz3 cz3)
    have H := Lib.hid S.first
    have C := Lib.hid c
    clear S c h ha hb ls
    go_wp2
    exact bodyPost_ret (v := .tuple #[.agg #[.slice Az0 nz0 cz0, .slice Az1 nz1 cz1, .slice Az2 nz2 cz2, .slice Az3 nz3 cz3], .bool false]) (by simp [results, Try.results36, go_sem, f12, f14, f16, f18]) rfl ⟨_, _, _, _, _, _, _, _, _, _, _, _, by rw [HR.out], by rw [HR.out]; exact H.out, C.out⟩
  have H1 := Lib.hid h1
  cases h2 : (wrote t.b i s).2
  case false =>
    have HR := Lib.hid (show bothWrote t i r = (t, false) by simp [bothWrote, hok, hw, h2])
    have HT := Lib.hid hok
    have H2 := Lib.hid h2
    clear hok hw h1 h2
    have S := Sep.nil w w.heap.size
    have c := Below.refl w.heap.size w
    replace S := S.boxAt c.size (w.heap.size) rfl #[.slice Aa0 na0 ca0, .slice Aa1 na1 ca1, .slice Aa2 na2 ca2, .slice Aa3 na3 ca3] 32
    replace c := c.alloc c.size (.cells #[.slice Aa0 na0 ca0, .slice Aa1 na1 ca1, .slice Aa2 na2 ca2, .slice Aa3 na3 ca3] 32)
    replace S := S.boxAt c.size (w.heap.size + 1) (by simp) #[.slice none 0 0, .slice none 0 0, .slice none 0 0, .slice none 0 0] 32
    replace c := c.alloc c.size (.cells #[.slice none 0 0, .slice none 0 0, .slice none 0 0, .slice none 0 0] 32)
    go_enter Try.func36, Try.ntmps36
    have f0 : ((w.alloc (.cells #[.slice Aa0 na0 ca0, .slice Aa1 na1 ca1, .slice Aa2 na2 ca2, .slice Aa3 na3 ca3] 32)).alloc (.cells #[.slice none 0 0, .slice none 0 0, .slice none 0 0, .slice none 0 0] 32)).cell? ⟨w.heap.size, 0, none⟩ = some (.slice Aa0 na0 ca0) := (S.at_ 1 rfl).cell 0
    have f1 : ((w.alloc (.cells #[.slice Aa0 na0 ca0, .slice Aa1 na1 ca1, .slice Aa2 na2 ca2, .slice Aa3 na3 ca3] 32)).alloc (.cells #[.slice none 0 0, .slice none 0 0, .slice none 0 0, .slice none 0 0] 32)).cell? ⟨w.heap.size, 1, none⟩ = some (.slice Aa1 na1 ca1) := (S.at_ 1 rfl).cell 1
    have f2 : ((w.alloc (.cells #[.slice Aa0 na0 ca0, .slice Aa1 na1 ca1, .slice Aa2 na2 ca2, .slice Aa3 na3 ca3] 32)).alloc (.cells #[.slice none 0 0, .slice none 0 0, .slice none 0 0, .slice none 0 0] 32)).cell? ⟨w.heap.size, 2, none⟩ = some (.slice Aa2 na2 ca2) := (S.at_ 1 rfl).cell 2
    have f3 : ((w.alloc (.cells #[.slice Aa0 na0 ca0, .slice Aa1 na1 ca1, .slice Aa2 na2 ca2, .slice Aa3 na3 ca3] 32)).alloc (.cells #[.slice none 0 0, .slice none 0 0, .slice none 0 0, .slice none 0 0] 32)).cell? ⟨w.heap.size, 3, none⟩ = some (.slice Aa3 na3 ca3) := (S.at_ 1 rfl).cell 3
    go_wp2_with fail
    generalize (w.alloc (.cells #[.slice Aa0 na0 ca0, .slice Aa1 na1 ca1, .slice Aa2 na2 ca2, .slice Aa3 na3 ca3] 32)).alloc (.cells #[.slice none 0 0, .slice none 0 0, .slice none 0 0, .slice none 0 0] 32) = w1 at *
    refine (sTwoOk_any _ _ _ _ _ _ _ _ _ _ _ _ t _ _ (h.keep c) c.size (by omega)).mono ?_
    rintro e w2 ⟨rfl, b⟩
    replace c := c.trans (b.mono c.size)
    replace S := S.keep b
    clear b f0 f1 f2 f3
    rw [HT.out]
    go_wp2_with fail
    refine (sWith_any _ _ _ r _ ((hi.below c).up c.size) ho).mono ?_
    rintro e w3 ⟨As0, ns0, cs0, rfl, o, b⟩
    obtain ⟨fp_s, S'⟩ := S.has b o.has c.size
    replace c := c.trans (b.mono c.size)
    clear S; have S := S'; clear S' o b
    have ls : (withSum r).length = ns0 := rowCells_len (S.own_ 0 rfl)
    rw [HW.out] at S ls
    have f4 : w3.cell? ⟨w.heap.size, 0, none⟩ = some (.slice Aa0 na0 ca0) := (S.at_ 2 rfl).cell 0
    have f5 : w3.cell? ⟨w.heap.size, 1, none⟩ = some (.slice Aa1 na1 ca1) := (S.at_ 2 rfl).cell 1
    go_wp2_with fail
    refine (sWrote_any _ _ _ _ _ _ t.a i _ _ _ s _ ((ha.keep c).up c.size) hsa ((S.own_ 0 rfl).rd) hsz).mono ?_
    rintro e w4 ⟨Au0, nu0, cu0, Au1, nu1, cu1, rfl, o, b⟩
    obtain ⟨fp_u, S'⟩ := S.has b o c.size
    replace c := c.trans (b.mono c.size)
    clear S; have S := S'; clear S' o b f4 f5
    rw [H1.out]
    replace S := S.boxAt c.size (w4.heap.size) rfl #[.slice Au0 nu0 cu0, .slice Au1 nu1 cu1] 30
    replace c := c.alloc c.size (.cells #[.slice Au0 nu0 cu0, .slice Au1 nu1 cu1] 30)
    have f6 : (w4.alloc (.cells #[.slice Au0 nu0 cu0, .slice Au1 nu1 cu1] 30)).cell? ⟨w.heap.size, 2, none⟩ = some (.slice Aa2 na2 ca2) := (S.at_ 4 rfl).cell 2
    have f7 : (w4.alloc (.cells #[.slice Au0 nu0 cu0, .slice Au1 nu1 cu1] 30)).cell? ⟨w.heap.size, 3, none⟩ = some (.slice Aa3 na3 ca3) := (S.at_ 4 rfl).cell 3
    go_wp2_with fail
    generalize w4.alloc (.cells #[.slice Au0 nu0 cu0, .slice Au1 nu1 cu1] 30) = w5 at *
    refine (sWrote_any _ _ _ _ _ _ t.b i _ _ _ s _ ((hb.keep c).up c.size) hsb ((S.own_ 2 rfl).rd) hsz).mono ?_
    rintro e w6 ⟨Av0, nv0, cv0, Av1, nv1, cv1, rfl, o, b⟩
    obtain ⟨fp_v, S'⟩ := S.has b o c.size
    replace c := c.trans (b.mono c.size)
    clear S; have S := S'; clear S' o b f6 f7
    rw [H2.out]
    replace S := S.boxAt c.size (w6.heap.size) rfl #[.slice Av0 nv0 cv0, .slice Av1 nv1 cv1] 30
    replace c := c.alloc c.size (.cells #[.slice Av0 nv0 cv0, .slice Av1 nv1 cv1] 30)
    have q0 : ¬ ((ns0 : Int) = 0) := by omega
    have f8 : (w6.alloc (.cells #[.slice Av0 nv0 cv0, .slice Av1 nv1 cv1] 30)).cell? ⟨w.heap.size, 0, none⟩ = some (.slice Aa0 na0 ca0) := (S.at_ 6 rfl).cell 0
    have f9 : (w6.alloc (.cells #[.slice Av0 nv0 cv0, .slice Av1 nv1 cv1] 30)).cell? ⟨w.heap.size, 1, none⟩ = some (.slice Aa1 na1 ca1) := (S.at_ 6 rfl).cell 1
    have f10 : (w6.alloc (.cells #[.slice Av0 nv0 cv0, .slice Av1 nv1 cv1] 30)).cell? ⟨w.heap.size, 2, none⟩ = some (.slice Aa2 na2 ca2) := (S.at_ 6 rfl).cell 2
    have f11 : (w6.alloc (.cells #[.slice Av0 nv0 cv0, .slice Av1 nv1 cv1] 30)).cell? ⟨w.heap.size, 3, none⟩ = some (.slice Aa3 na3 ca3) := (S.at_ 6 rfl).cell 3
    go_wp2_with fail
    generalize w6.alloc (.cells #[.slice Av0 nv0 cv0, .slice Av1 nv1 cv1] 30) = w7 at *
    refine (sCopyT_any _ _ _ _ _ _ _ _ _ _ _ _ t _ ((h.keep c).up c.size) hs).mono ?_
    rintro e w8 ⟨Az0, nz0, cz0, Az1, nz1, cz1, Az2, nz2, cz2, Az3, nz3, cz3, rfl, o, b⟩
    obtain ⟨fp_z, S'⟩ := S.has b o c.size
    replace c := c.trans (b.mono c.size)
    clear S; have S := S'; clear S' o b f8 f9 f10 f11
    have f12 : w8.cell? ⟨w.heap.size + 1, 0, none⟩ = some (.slice none 0 0) := (S.at_ 6 rfl).cell 0
    have f13 := (S.at_ 6 rfl).free 0
    have f14 : w8.cell? ⟨w.heap.size + 1, 1, none⟩ = some (.slice none 0 0) := (S.at_ 6 rfl).cell 1
    have f15 := (S.at_ 6 rfl).free 1
    have f16 : w8.cell? ⟨w.heap.size + 1, 2, none⟩ = some (.slice none 0 0) := (S.at_ 6 rfl).cell 2
    have f17 := (S.at_ 6 rfl).free 2
    have f18 : w8.cell? ⟨w.heap.size + 1, 3, none⟩ = some (.slice none 0 0) := (S.at_ 6 rfl).cell 3
    have f19 := (S.at_ 6 rfl).free 3
    replace S := S.put 6 rfl 0 (.slice Az0 nz0 cz0)
    replace c := c.setCell (p := ⟨w.heap.size + 1, 0, none⟩) (by show w.heap.size ≤ w.heap.size + 1; omega) (.slice Az0 nz0 cz0)
    replace S := S.put 6 rfl 1 (.slice Az1 nz1 cz1)
    replace c := c.setCell (p := ⟨w.heap.size + 1, 1, none⟩) (by show w.heap.size ≤ w.heap.size + 1; omega) (.slice Az1 nz1 cz1)
    replace S := S.put 6 rfl 2 (.slice Az2 nz2 cz2)
    replace c := c.setCell (p := ⟨w.heap.size + 1, 2, none⟩) (by show w.heap.size ≤ w.heap.size + 1; omega) (.slice Az2 nz2 cz2)
    replace S := S.put 6 rfl 3 (.slice Az3 nz3 cz3)
    replace c := c.setCell (p := ⟨w.heap.size + 1, 3, none⟩) (by show w.heap.size ≤ w.heap.size + 1; omega) (.slice Az3 nz3 cz3)
    have H := Lib.hid S.first
    have C := Lib.hid c
    clear S c h ha hb ls
    go_wp2
    exact bodyPost_ret (v := .tuple #[.agg #[.slice Az0 nz0 cz0, .slice Az1 nz1 cz1, .slice Az2 nz2 cz2, .slice Az3 nz3 cz3], .bool false]) (by simp [results, Try.results36, go_sem, f12, f14, f16, f18]) rfl ⟨_, _, _, _, _, _, _, _, _, _, _, _, by rw [HR.out], by rw [HR.out]; exact H.out, C.out⟩
  have HR := Lib.hid (show bothWrote t i r = (⟨(wrote t.a i s).1, (wrote t.b i s).1⟩, true) by
    unfold bothWrote
    rw [if_pos hok, hw, if_pos ⟨hl, h1, h2⟩])
  have HT := Lib.hid hok
  have H2 := Lib.hid h2
  clear hok hw h1 h2
  have S := Sep.nil w w.heap.size
  have c := Below.refl w.heap.size w
  replace S := S.boxAt c.size (w.heap.size) rfl #[.slice Aa0 na0 ca0, .slice Aa1 na1 ca1, .slice Aa2 na2 ca2, .slice Aa3 na3 ca3] 32
  replace c := c.alloc c.size (.cells #[.slice Aa0 na0 ca0, .slice Aa1 na1 ca1, .slice Aa2 na2 ca2, .slice Aa3 na3 ca3] 32)
  replace S := S.boxAt c.size (w.heap.size + 1) (by simp) #[.slice none 0 0, .slice none 0 0, .slice none 0 0, .slice none 0 0] 32
  replace c := c.alloc c.size (.cells #[.slice none 0 0, .slice none 0 0, .slice none 0 0, .slice none 0 0] 32)
  go_enter Try.func36, Try.ntmps36
  have f0 : ((w.alloc (.cells #[.slice Aa0 na0 ca0, .slice Aa1 na1 ca1, .slice Aa2 na2 ca2, .slice Aa3 na3 ca3] 32)).alloc (.cells #[.slice none 0 0, .slice none 0 0, .slice none 0 0, .slice none 0 0] 32)).cell? ⟨w.heap.size, 0, none⟩ = some (.slice Aa0 na0 ca0) := (S.at_ 1 rfl).cell 0
  have f1 : ((w.alloc (.cells #[.slice Aa0 na0 ca0, .slice Aa1 na1 ca1, .slice Aa2 na2 ca2, .slice Aa3 na3 ca3] 32)).alloc (.cells #[.slice none 0 0, .slice none 0 0, .slice none 0 0, .slice none 0 0] 32)).cell? ⟨w.heap.size, 1, none⟩ = some (.slice Aa1 na1 ca1) := (S.at_ 1 rfl).cell 1
  have f2 : ((w.alloc (.cells #[.slice Aa0 na0 ca0, .slice Aa1 na1 ca1, .slice Aa2 na2 ca2, .slice Aa3 na3 ca3] 32)).alloc (.cells #[.slice none 0 0, .slice none 0 0, .slice none 0 0, .slice none 0 0] 32)).cell? ⟨w.heap.size, 2, none⟩ = some (.slice Aa2 na2 ca2) := (S.at_ 1 rfl).cell 2
  have f3 : ((w.alloc (.cells #[.slice Aa0 na0 ca0, .slice Aa1 na1 ca1, .slice Aa2 na2 ca2, .slice Aa3 na3 ca3] 32)).alloc (.cells #[.slice none 0 0, .slice none 0 0, .slice none 0 0, .slice none 0 0] 32)).cell? ⟨w.heap.size, 3, none⟩ = some (.slice Aa3 na3 ca3) := (S.at_ 1 rfl).cell 3
  go_wp2_with fail
  generalize (w.alloc (.cells #[.slice Aa0 na0 ca0, .slice Aa1 na1 ca1, .slice Aa2 na2 ca2, .slice Aa3 na3 ca3] 32)).alloc (.cells #[.slice none 0 0, .slice none 0 0, .slice none 0 0, .slice none 0 0] 32) = w1 at *
  refine (sTwoOk_any _ _ _ _ _ _ _ _ _ _ _ _ t _ _ (h.keep c) c.size (by omega)).mono ?_
  rintro e w2 ⟨rfl, b⟩
  replace c := c.trans (b.mono c.size)
  replace S := S.keep b
  clear b f0 f1 f2 f3
  rw [HT.out]
  go_wp2_with fail
  refine (sWith_any _ _ _ r _ ((hi.below c).up c.size) ho).mono ?_
  rintro e w3 ⟨As0, ns0, cs0, rfl, o, b⟩
  obtain ⟨fp_s, S'⟩ := S.has b o.has c.size
  replace c := c.trans (b.mono c.size)
  clear S; have S := S'; clear S' o b
  have ls : (withSum r).length = ns0 := rowCells_len (S.own_ 0 rfl)
  rw [HW.out] at S ls
  have f4 : w3.cell? ⟨w.heap.size, 0, none⟩ = some (.slice Aa0 na0 ca0) := (S.at_ 2 rfl).cell 0
  have f5 : w3.cell? ⟨w.heap.size, 1, none⟩ = some (.slice Aa1 na1 ca1) := (S.at_ 2 rfl).cell 1
  go_wp2_with fail
  refine (sWrote_any _ _ _ _ _ _ t.a i _ _ _ s _ ((ha.keep c).up c.size) hsa ((S.own_ 0 rfl).rd) hsz).mono ?_
  rintro e w4 ⟨Au0, nu0, cu0, Au1, nu1, cu1, rfl, o, b⟩
  obtain ⟨fp_u, S'⟩ := S.has b o c.size
  replace c := c.trans (b.mono c.size)
  clear S; have S := S'; clear S' o b f4 f5
  rw [H1.out]
  replace S := S.boxAt c.size (w4.heap.size) rfl #[.slice Au0 nu0 cu0, .slice Au1 nu1 cu1] 30
  replace c := c.alloc c.size (.cells #[.slice Au0 nu0 cu0, .slice Au1 nu1 cu1] 30)
  have f6 : (w4.alloc (.cells #[.slice Au0 nu0 cu0, .slice Au1 nu1 cu1] 30)).cell? ⟨w.heap.size, 2, none⟩ = some (.slice Aa2 na2 ca2) := (S.at_ 4 rfl).cell 2
  have f7 : (w4.alloc (.cells #[.slice Au0 nu0 cu0, .slice Au1 nu1 cu1] 30)).cell? ⟨w.heap.size, 3, none⟩ = some (.slice Aa3 na3 ca3) := (S.at_ 4 rfl).cell 3
  go_wp2_with fail
  generalize w4.alloc (.cells #[.slice Au0 nu0 cu0, .slice Au1 nu1 cu1] 30) = w5 at *
  refine (sWrote_any _ _ _ _ _ _ t.b i _ _ _ s _ ((hb.keep c).up c.size) hsb ((S.own_ 2 rfl).rd) hsz).mono ?_
  rintro e w6 ⟨Av0, nv0, cv0, Av1, nv1, cv1, rfl, o, b⟩
  obtain ⟨fp_v, S'⟩ := S.has b o c.size
  replace c := c.trans (b.mono c.size)
  clear S; have S := S'; clear S' o b f6 f7
  rw [H2.out]
  replace S := S.boxAt c.size (w6.heap.size) rfl #[.slice Av0 nv0 cv0, .slice Av1 nv1 cv1] 30
  replace c := c.alloc c.size (.cells #[.slice Av0 nv0 cv0, .slice Av1 nv1 cv1] 30)
  have q0 : ¬ ((ns0 : Int) = 0) := by omega
  have f8 : (w6.alloc (.cells #[.slice Av0 nv0 cv0, .slice Av1 nv1 cv1] 30)).cell? ⟨w4.heap.size, 0, none⟩ = some (.slice Au0 nu0 cu0) := (S.at_ 2 rfl).cell 0
  have f9 : (w6.alloc (.cells #[.slice Av0 nv0 cv0, .slice Av1 nv1 cv1] 30)).cell? ⟨w4.heap.size, 1, none⟩ = some (.slice Au1 nu1 cu1) := (S.at_ 2 rfl).cell 1
  have f10 : (w6.alloc (.cells #[.slice Av0 nv0 cv0, .slice Av1 nv1 cv1] 30)).cell? ⟨w6.heap.size, 0, none⟩ = some (.slice Av0 nv0 cv0) := (S.at_ 0 rfl).cell 0
  have f11 : (w6.alloc (.cells #[.slice Av0 nv0 cv0, .slice Av1 nv1 cv1] 30)).cell? ⟨w6.heap.size, 1, none⟩ = some (.slice Av1 nv1 cv1) := (S.at_ 0 rfl).cell 1
  have f12 : (w6.alloc (.cells #[.slice Av0 nv0 cv0, .slice Av1 nv1 cv1] 30)).cell? ⟨w.heap.size + 1, 0, none⟩ = some (.slice none 0 0) := (S.at_ 5 rfl).cell 0
  have f13 := (S.at_ 5 rfl).free 0
  have f14 : (w6.alloc (.cells #[.slice Av0 nv0 cv0, .slice Av1 nv1 cv1] 30)).cell? ⟨w.heap.size + 1, 1, none⟩ = some (.slice none 0 0) := (S.at_ 5 rfl).cell 1
  have f15 := (S.at_ 5 rfl).free 1
  have f16 : (w6.alloc (.cells #[.slice Av0 nv0 cv0, .slice Av1 nv1 cv1] 30)).cell? ⟨w.heap.size + 1, 2, none⟩ = some (.slice none 0 0) := (S.at_ 5 rfl).cell 2
  have f17 := (S.at_ 5 rfl).free 2
  have f18 : (w6.alloc (.cells #[.slice Av0 nv0 cv0, .slice Av1 nv1 cv1] 30)).cell? ⟨w.heap.size + 1, 3, none⟩ = some (.slice none 0 0) := (S.at_ 5 rfl).cell 3
  have f19 := (S.at_ 5 rfl).free 3
  replace S := S.put 5 rfl 0 (.slice Au0 nu0 cu0)
  replace c := c.setCell (p := ⟨w.heap.size + 1, 0, none⟩) (by show w.heap.size ≤ w.heap.size + 1; omega) (.slice Au0 nu0 cu0)
  replace S := S.put 5 rfl 1 (.slice Au1 nu1 cu1)
  replace c := c.setCell (p := ⟨w.heap.size + 1, 1, none⟩) (by show w.heap.size ≤ w.heap.size + 1; omega) (.slice Au1 nu1 cu1)
  replace S := S.put 5 rfl 2 (.slice Av0 nv0 cv0)
  replace c := c.setCell (p := ⟨w.heap.size + 1, 2, none⟩) (by show w.heap.size ≤ w.heap.size + 1; omega) (.slice Av0 nv0 cv0)
  replace S := S.put 5 rfl 3 (.slice Av1 nv1 cv1)
  replace c := c.setCell (p := ⟨w.heap.size + 1, 3, none⟩) (by show w.heap.size ≤ w.heap.size + 1; omega) (.slice Av1 nv1 cv1)
  replace S := S.sub (.cons _ (.cons_cons _ (.cons _ (.cons_cons _ (List.nil_sublist _)))))
  have H := Lib.hid S.pair
  have C := Lib.hid c
  clear S c h ha hb ls
  go_wp2
  exact bodyPost_ret (v := .tuple #[.agg #[.slice Au0 nu0 cu0, .slice Au1 nu1 cu1, .slice Av0 nv0 cv0, .slice Av1 nv1 cv1], .bool true]) (by simp [results, Try.results36, go_sem, f12, f14, f16, f18]) rfl ⟨_, _, _, _, _, _, _, _, _, _, _, _, by rw [HR.out], by rw [HR.out]; exact H.out, C.out⟩

end Go.Proofs.Ytejcpoidoekleaa
