/-
  Chapter 8: copies of books, the entry at an index, of the model (by program, wip/gen/genbooks2.py).
-/
import Derived.Test.YtnjfdnjakogpmaaBookS1
import Derived.Test.YtnjfdnjakogpmaaMove
import Derived.RegionTactic
import Derived.BigQuiet
import Derived.Laws.EntriesVeiled
namespace Go.Proofs.Ytnjfdnjakogpmaa
set_option maxRecDepth 100000
open Go.RowKit

theorem ent_flat : ∀ x : EntM, entC x = (entNs x).flatMap fun y => [Dat.int y] := fun _ => rfl
set_option maxHeartbeats 3200000 in
theorem sCopyEs_any (A : Option Addr) (n cc B : Nat) (l : List EntM) (w : World) (h : Rd w B [entD l] [.slice A n cc]) (hB : B ≤ w.heap.size) (hs : entSz l ≤ 1048577) :
    Calls Try.prog 62 #[.slice A n cc] w fun e w' => ∃ (A2 : Option Addr) (c2 : Nat), e = .returned (.slice A2 n c2) ∧ Has w' w.heap.size [entD l] [.slice A2 n c2] ∧ Below w.heap.size w w' := by
  obtain ⟨_, _, _, e, hl, _, hcm, _⟩ := h.ents
  injection e with e1 e2 e3
  subst e1 e2 e3
  have hn : n ≤ 1048577 := by unfold entSz at hs; omega
  have S := Sep.nil w w.heap.size
  have c := Below.refl w.heap.size w
  replace S := S.boxAt c.size (w.heap.size) rfl #[] 37
  replace c := c.alloc c.size (.cells #[] 37)
  have hsr := Rd.src (f := entC) (g := entNs) (l := l) (e := 37) (k := 9) ent_flat (fun _ => rfl) (by decide) (h.keep (c.mono hB))
  replace S := S.blk0 (k := 9) (f := entC)
  replace S := (S.flat (f := entC) (g := entNs) ent_flat l).swap
  have hgc := Lib.hid c
  clear h c hcm
  go_enter Try.func62, Try.ntmps62
  go_wp2_with (first
    | (at_builtin
       refine wpList_append_fresh (f := entC) (k := 9) (l2 := l) rfl (.tmp 3) (.tmp 4) (by rfl) Try.underlying27 infoEntry (by rfl) (by decide) entC_len (by rfl) (S.own_ 0 rfl) (S.nodup_own 0 rfl) (by rfl) hsr.1 (S.own_ 1 rfl) hsr.2 (S.nodup_own 1 rfl) S.apart (by omega) (by omega) ?_
       intro A3 c3 w3 fp3 o3 n3 s3 t3))
  have H := Lib.hid (S.merge t3 o3 n3 s3 hgc.out.size).first
  have C := Lib.hid (hgc.out.trans (S.below 0 rfl t3 hgc.out.size))
  clear S o3 n3 s3 t3 hgc hsr
  go_ret
  exact ⟨_, _, rfl, H.out, C.out⟩
set_option maxHeartbeats 3200000 in
theorem sCopy_any (x0 x1 : Int) (A : Option Addr) (n cc B : Nat) (l : List EntM) (w : World) (h : Rd w B [entD l] [.slice A n cc]) (hB : B ≤ w.heap.size) (hs : entSz l ≤ 1048577) :
    Calls Try.prog 57 #[.agg #[.int .i64 x0, .int .i64 x1, .slice A n cc]] w fun e w' => ∃ (A2 : Option Addr) (c2 : Nat), e = .returned (.agg #[.int .i64 x0, .int .i64 x1, .slice A2 n c2]) ∧ Has w' w.heap.size [entD l] [.slice A2 n c2] ∧ Below w.heap.size w w' := by
  have HH := Lib.hid h
  clear h
  have S := Sep.nil w w.heap.size
  have c := Below.refl w.heap.size w
  replace S := S.boxAt c.size (w.heap.size) rfl #[.int .i64 x0, .int .i64 x1, .slice A n cc] 29
  replace c := c.alloc c.size (.cells #[.int .i64 x0, .int .i64 x1, .slice A n cc] 29)
  replace S := S.boxAt c.size (w.heap.size + 1) (by simp) #[.int .i64 0, .int .i64 0, .slice none 0 0] 29
  replace c := c.alloc c.size (.cells #[.int .i64 0, .int .i64 0, .slice none 0 0] 29)
  go_enter Try.func57, Try.ntmps57
  go_wp2_with fail
  generalize (w.alloc (.cells #[.int .i64 x0, .int .i64 x1, .slice A n cc] 29)).alloc (.cells #[.int .i64 0, .int .i64 0, .slice none 0 0] 29) = w1 at *
  refine wp_region_L (fun v => v.cell? ⟨w.heap.size, 0, none⟩ = some (.int .i64 x0) ∧ v.cell? ⟨w.heap.size, 1, none⟩ = some (.int .i64 x1) ∧ v.cell? ⟨w.heap.size, 2, none⟩ = some (.slice A n cc)) 8 (by kernel_rfl) ?_
  replace S := S.keep ((Below.refl _ _).drew)
  replace c := c.drew
  generalize w1.drew = w2 at *
  have HF : w2.cell? ⟨w.heap.size, 0, none⟩ = some (.int .i64 x0) ∧ w2.cell? ⟨w.heap.size, 1, none⟩ = some (.int .i64 x1) ∧ w2.cell? ⟨w.heap.size, 2, none⟩ = some (.slice A n cc) := ⟨(S.at_ 1 rfl).cell 0, (S.at_ 1 rfl).cell 1, (S.at_ 1 rfl).cell 2⟩
  refine wpAnyL_take (i := 0) (v := ?_) rfl rfl (by kernel_rfl) (by kernel_rfl) (by kernel_rfl) (by kernel_rfl) (by kernel_rfl) (fun _ _ _ h => h) HF (Or.inl ⟨by rfl, ?_⟩) ?_
  rotate_left 1
  · (rintro v ⟨a0, a1, a2⟩; go_simp; try with_reducible rfl)
  try simp only [Act.put]
  refine wpAnyL_take (i := 1) (v := ?_) rfl rfl (by kernel_rfl) (by kernel_rfl) (by kernel_rfl) (by kernel_rfl) (by kernel_rfl) (fun _ _ _ h => h) HF (Or.inl ⟨by rfl, ?_⟩) ?_
  rotate_left 1
  · (rintro v ⟨a0, a1, a2⟩; go_simp; try with_reducible rfl)
  try simp only [Act.put]
  refine wpAnyL_take (i := 2) (v := ?_) rfl rfl (by kernel_rfl) (by kernel_rfl) (by kernel_rfl) (by kernel_rfl) (by kernel_rfl) (fun _ _ _ h => h) HF (Or.inl ⟨by rfl, ?_⟩) ?_
  rotate_left 1
  · (rintro v ⟨a0, a1, a2⟩; go_simp; try with_reducible rfl)
  try simp only [Act.put]
  refine wpAnyL_take (i := 3) (v := ?_) rfl rfl (by kernel_rfl) (by kernel_rfl) (by kernel_rfl) (by kernel_rfl) (by kernel_rfl) (fun _ _ _ h => h) HF (Or.inl ⟨by rfl, ?_⟩) ?_
  rotate_left 1
  · (rintro v ⟨a0, a1, a2⟩; go_simp; try with_reducible rfl)
  try simp only [Act.put]
  refine wpAnyL_take (i := 4) (v := ?_) rfl rfl (by kernel_rfl) (by kernel_rfl) (by kernel_rfl) (by kernel_rfl) (by kernel_rfl) (fun _ _ _ h => h) HF (Or.inl ⟨by rfl, ?_⟩) ?_
  rotate_left 1
  · (rintro v ⟨a0, a1, a2⟩; go_simp; try with_reducible rfl)
  try simp only [Act.put]
  refine wpAnyL_take (i := 5) (v := ?_) rfl rfl (by kernel_rfl) (by kernel_rfl) (by kernel_rfl) (by kernel_rfl) (by kernel_rfl) (fun _ _ _ h => h) HF (Or.inl ⟨by rfl, ?_⟩) ?_
  rotate_left 1
  · (rintro v ⟨a0, a1, a2⟩; go_simp; try with_reducible rfl)
  try simp only [Act.put]
  refine wpAnyL_step (i := 6) (by kernel_rfl) rfl rfl ?_
  intro K hK
  go_simp
  refine (sCopyEs_any A n cc B l _ (HH.out.keep (c.mono hB)) (Nat.le_trans hB c.size) hs).mono ?_
  rintro e w3 ⟨A2, c2, rfl, o, b⟩
  obtain ⟨fp_u, S'⟩ := S.has b o c.size
  replace c := c.trans (b.mono c.size)
  clear S; have S := S'; clear S' o b
  clear HF
  have HF : w3.cell? ⟨w.heap.size, 0, none⟩ = some (.int .i64 x0) ∧ w3.cell? ⟨w.heap.size, 1, none⟩ = some (.int .i64 x1) ∧ w3.cell? ⟨w.heap.size, 2, none⟩ = some (.slice A n cc) := ⟨(S.at_ 2 rfl).cell 0, (S.at_ 2 rfl).cell 1, (S.at_ 2 rfl).cell 2⟩
  refine hK _ _ (fun _ => HF) ?_
  clear hK K
  try simp only [Act.put]
  refine wpAnyL_pure (i := 7) (v := ?_) rfl rfl (by kernel_rfl) (by kernel_rfl) (by kernel_rfl) (fun _ _ _ h => h) HF (Or.inl ⟨by rfl, ?_⟩) ?_
  rotate_left 1
  · (intro v _; go_simp; try with_reducible rfl)
  try simp only [Act.put]
  have f0 : w3.cell? ⟨w.heap.size + 1, 0, none⟩ = some (.int .i64 0) := (S.at_ 1 rfl).cell 0
  have f1 := (S.at_ 1 rfl).free 0
  have f2 : w3.cell? ⟨w.heap.size + 1, 1, none⟩ = some (.int .i64 0) := (S.at_ 1 rfl).cell 1
  have f3 := (S.at_ 1 rfl).free 1
  have f4 : w3.cell? ⟨w.heap.size + 1, 2, none⟩ = some (.slice none 0 0) := (S.at_ 1 rfl).cell 2
  have f5 := (S.at_ 1 rfl).free 2
  refine wpAnyL_step (i := 8) (by kernel_rfl) rfl rfl ?_
  intro K hK
  go_simp
  refine hK _ _ (fun h => nomatch (show true = false from h)) ?_
  clear hK K
  try simp only [Act.put]
  refine wpAnyL_done (by kernel_rfl) ?_ _
  replace S := S.put 1 rfl 0 (.int .i64 x0)
  replace c := c.setCell (p := ⟨w.heap.size + 1, 0, none⟩) (by show w.heap.size ≤ w.heap.size + 1; omega) (.int .i64 x0)
  replace S := S.put 1 rfl 1 (.int .i64 x1)
  replace c := c.setCell (p := ⟨w.heap.size + 1, 1, none⟩) (by show w.heap.size ≤ w.heap.size + 1; omega) (.int .i64 x1)
  replace S := S.put 1 rfl 2 (.slice A2 n c2)
  replace c := c.setCell (p := ⟨w.heap.size + 1, 2, none⟩) (by show w.heap.size ≤ w.heap.size + 1; omega) (.slice A2 n c2)
  clear HF
  generalize ((w3.setCell ⟨w.heap.size + 1, 0, none⟩ (.int .i64 x0)).setCell ⟨w.heap.size + 1, 1, none⟩ (.int .i64 x1)).setCell ⟨w.heap.size + 1, 2, none⟩ (.slice A2 n c2) = w4 at *
  clear f0 f1 f2 f3 f4 f5
  replace S := S.pick 0 rfl
  have H := Lib.hid S.first
  have r0 := Lib.hid ((S.at_ 1 rfl).cell 0)
  have r1 := Lib.hid ((S.at_ 1 rfl).cell 1)
  have r2 := Lib.hid ((S.at_ 1 rfl).cell 2)
  have CC := Lib.hid c
  clear S c
  go_wp2
  exact bodyPost_ret (v := .agg #[.int .i64 x0, .int .i64 x1, .slice A2 n c2]) (by simp [results, Try.results57, go_sem, r0.out, r1.out, r2.out]) rfl ⟨_, _, rfl, H.out, CC.out⟩

set_option maxHeartbeats 6400000 in
theorem sEntAt_any (x0 x1 : Int) (A : Option Addr) (n cc B : Nat) (l : List EntM) (i : Int) (w : World) (h : Rd w B [entD l] [.slice A n cc]) (hB : B ≤ w.heap.size) (hs : entSz l ≤ 1048577) :
    Calls Try.prog 22 #[.agg #[.int .i64 x0, .int .i64 x1, .slice A n cc], .int .i64 i] w fun e w' => e = .returned (.tuple #[.agg #[.int .i64 (atM ⟨x0, x1, l⟩ i).1.idx, .int .i64 (atM ⟨x0, x1, l⟩ i).1.tm, .int .i64 (atM ⟨x0, x1, l⟩ i).1.cl, .int .i64 (atM ⟨x0, x1, l⟩ i).1.sq, .int .i64 (atM ⟨x0, x1, l⟩ i).1.kd, .int .i64 (atM ⟨x0, x1, l⟩ i).1.oa, .int .i64 (atM ⟨x0, x1, l⟩ i).1.ob, .int .i64 (atM ⟨x0, x1, l⟩ i).1.oc, .int .i64 (atM ⟨x0, x1, l⟩ i).1.od], .bool (atM ⟨x0, x1, l⟩ i).2]) ∧ Below w.heap.size w w' := by
  have HH := Lib.hid h
  obtain ⟨_, _, _, e, hl, _, hcm, hel⟩ := h.ents
  injection e with e1 e2 e3
  subst e1 e2 e3
  have hn : n ≤ 1048577 := by unfold entSz at hs; omega
  have HL := Lib.hid hl
  cases hok : bookB ⟨x0, x1, l⟩
  case false =>
    have HK := Lib.hid hok
    have HV := Lib.hid (show atM ⟨x0, x1, l⟩ i = (ent0, false) by unfold atM; rw [hok]; rfl)
    clear hok h hel hcm hl
    have S := Sep.nil w w.heap.size
    have c := Below.refl w.heap.size w
    replace S := S.boxAt c.size (w.heap.size) rfl #[.int .i64 x0, .int .i64 x1, .slice A n cc] 29
    replace c := c.alloc c.size (.cells #[.int .i64 x0, .int .i64 x1, .slice A n cc] 29)
    replace S := S.boxAt c.size (w.heap.size + 1) (by simp) #[.int .i64 0, .int .i64 0, .int .i64 0, .int .i64 0, .int .i64 0, .int .i64 0, .int .i64 0, .int .i64 0, .int .i64 0] 37
    replace c := c.alloc c.size (.cells #[.int .i64 0, .int .i64 0, .int .i64 0, .int .i64 0, .int .i64 0, .int .i64 0, .int .i64 0, .int .i64 0, .int .i64 0] 37)
    go_enter Try.func22, Try.ntmps22
    have f0 : ((w.alloc (.cells #[.int .i64 x0, .int .i64 x1, .slice A n cc] 29)).alloc (.cells #[.int .i64 0, .int .i64 0, .int .i64 0, .int .i64 0, .int .i64 0, .int .i64 0, .int .i64 0, .int .i64 0, .int .i64 0] 37)).cell? ⟨w.heap.size, 0, none⟩ = some (.int .i64 x0) := (S.at_ 1 rfl).cell 0
    have f1 : ((w.alloc (.cells #[.int .i64 x0, .int .i64 x1, .slice A n cc] 29)).alloc (.cells #[.int .i64 0, .int .i64 0, .int .i64 0, .int .i64 0, .int .i64 0, .int .i64 0, .int .i64 0, .int .i64 0, .int .i64 0] 37)).cell? ⟨w.heap.size, 1, none⟩ = some (.int .i64 x1) := (S.at_ 1 rfl).cell 1
    have f2 : ((w.alloc (.cells #[.int .i64 x0, .int .i64 x1, .slice A n cc] 29)).alloc (.cells #[.int .i64 0, .int .i64 0, .int .i64 0, .int .i64 0, .int .i64 0, .int .i64 0, .int .i64 0, .int .i64 0, .int .i64 0] 37)).cell? ⟨w.heap.size, 2, none⟩ = some (.slice A n cc) := (S.at_ 1 rfl).cell 2
    go_wp2_with fail
    generalize (w.alloc (.cells #[.int .i64 x0, .int .i64 x1, .slice A n cc] 29)).alloc (.cells #[.int .i64 0, .int .i64 0, .int .i64 0, .int .i64 0, .int .i64 0, .int .i64 0, .int .i64 0, .int .i64 0, .int .i64 0] 37) = w1 at *
    have hrd := HH.out.keep (c.mono hB)
    have hbs := Nat.le_trans hB c.size
    refine wp_region_cls (fun v => v.cell? ⟨w.heap.size, 0, none⟩ = some (.int .i64 x0) ∧ v.cell? ⟨w.heap.size, 1, none⟩ = some (.int .i64 x1) ∧ v.cell? ⟨w.heap.size, 2, none⟩ = some (.slice A n cc) ∧ Rd v B [entD l] [.slice A n cc] ∧ B ≤ v.heap.size) (by kernel_rfl) (by kernel_rfl) (fun v hv => ⟨(hv.cell (p := ⟨w.heap.size, 0, none⟩) (lt_of_cell f0)).trans f0, (hv.cell (p := ⟨w.heap.size, 1, none⟩) (lt_of_cell f1)).trans f1, (hv.cell (p := ⟨w.heap.size, 2, none⟩) (lt_of_cell f2)).trans f2, hrd.keep (hv.mono hbs), Nat.le_trans hbs hv.size⟩) ?_
    intro CL HF HC
    repeat
      (first
         | go_big_quiet_skip
         | (go_big_quiet_want
            go_big_quiet_op
            first
              | go_big_quiet_on
              | (apply Exists.intro
                 refine ⟨fun v hv => ?_, ?_⟩
                 · obtain ⟨a0, a1, a2, a3, a4⟩ := HF v hv
                   first
                     | (go_at_call 14; exact Calls.cls HC hv (sBookOk_any x0 x1 A n cc B l v a3 a4 hs) (congrArg Value.bool HK.out))
                     | exact rfl
                     | (go_simp; exact rfl)
                     | (go_simp; exact ⟨rfl, hv⟩)
                 go_big_quiet_on)))
    refine wpQuiet_nil ?_
    intro w9 b9
    replace c := c.trans (b9.mono c.size)
    replace S := S.keep b9
    clear b9 hrd hbs f0 f1 f2
    have f3 : w9.cell? ⟨w.heap.size + 1, 0, none⟩ = some (.int .i64 0) := (S.at_ 0 rfl).cell 0
    have f4 := (S.at_ 0 rfl).free 0
    have f5 : w9.cell? ⟨w.heap.size + 1, 1, none⟩ = some (.int .i64 0) := (S.at_ 0 rfl).cell 1
    have f6 := (S.at_ 0 rfl).free 1
    have f7 : w9.cell? ⟨w.heap.size + 1, 2, none⟩ = some (.int .i64 0) := (S.at_ 0 rfl).cell 2
    have f8 := (S.at_ 0 rfl).free 2
    have f9 : w9.cell? ⟨w.heap.size + 1, 3, none⟩ = some (.int .i64 0) := (S.at_ 0 rfl).cell 3
    have f10 := (S.at_ 0 rfl).free 3
    have f11 : w9.cell? ⟨w.heap.size + 1, 4, none⟩ = some (.int .i64 0) := (S.at_ 0 rfl).cell 4
    have f12 := (S.at_ 0 rfl).free 4
    have f13 : w9.cell? ⟨w.heap.size + 1, 5, none⟩ = some (.int .i64 0) := (S.at_ 0 rfl).cell 5
    have f14 := (S.at_ 0 rfl).free 5
    have f15 : w9.cell? ⟨w.heap.size + 1, 6, none⟩ = some (.int .i64 0) := (S.at_ 0 rfl).cell 6
    have f16 := (S.at_ 0 rfl).free 6
    have f17 : w9.cell? ⟨w.heap.size + 1, 7, none⟩ = some (.int .i64 0) := (S.at_ 0 rfl).cell 7
    have f18 := (S.at_ 0 rfl).free 7
    have f19 : w9.cell? ⟨w.heap.size + 1, 8, none⟩ = some (.int .i64 0) := (S.at_ 0 rfl).cell 8
    have f20 := (S.at_ 0 rfl).free 8
    replace S := S.put 0 rfl 0 (.int .i64 0)
    replace c := c.setCell (p := ⟨w.heap.size + 1, 0, none⟩) (by show w.heap.size ≤ w.heap.size + 1; omega) (.int .i64 0)
    replace S := S.put 0 rfl 1 (.int .i64 0)
    replace c := c.setCell (p := ⟨w.heap.size + 1, 1, none⟩) (by show w.heap.size ≤ w.heap.size + 1; omega) (.int .i64 0)
    replace S := S.put 0 rfl 2 (.int .i64 0)
    replace c := c.setCell (p := ⟨w.heap.size + 1, 2, none⟩) (by show w.heap.size ≤ w.heap.size + 1; omega) (.int .i64 0)
    replace S := S.put 0 rfl 3 (.int .i64 0)
    replace c := c.setCell (p := ⟨w.heap.size + 1, 3, none⟩) (by show w.heap.size ≤ w.heap.size + 1; omega) (.int .i64 0)
    replace S := S.put 0 rfl 4 (.int .i64 0)
    replace c := c.setCell (p := ⟨w.heap.size + 1, 4, none⟩) (by show w.heap.size ≤ w.heap.size + 1; omega) (.int .i64 0)
    replace S := S.put 0 rfl 5 (.int .i64 0)
    replace c := c.setCell (p := ⟨w.heap.size + 1, 5, none⟩) (by show w.heap.size ≤ w.heap.size + 1; omega) (.int .i64 0)
    replace S := S.put 0 rfl 6 (.int .i64 0)
    replace c := c.setCell (p := ⟨w.heap.size + 1, 6, none⟩) (by show w.heap.size ≤ w.heap.size + 1; omega) (.int .i64 0)
    replace S := S.put 0 rfl 7 (.int .i64 0)
    replace c := c.setCell (p := ⟨w.heap.size + 1, 7, none⟩) (by show w.heap.size ≤ w.heap.size + 1; omega) (.int .i64 0)
    replace S := S.put 0 rfl 8 (.int .i64 0)
    replace c := c.setCell (p := ⟨w.heap.size + 1, 8, none⟩) (by show w.heap.size ≤ w.heap.size + 1; omega) (.int .i64 0)
    have r0 := Lib.hid ((S.at_ 0 rfl).cell 0)
    have r1 := Lib.hid ((S.at_ 0 rfl).cell 1)
    have r2 := Lib.hid ((S.at_ 0 rfl).cell 2)
    have r3 := Lib.hid ((S.at_ 0 rfl).cell 3)
    have r4 := Lib.hid ((S.at_ 0 rfl).cell 4)
    have r5 := Lib.hid ((S.at_ 0 rfl).cell 5)
    have r6 := Lib.hid ((S.at_ 0 rfl).cell 6)
    have r7 := Lib.hid ((S.at_ 0 rfl).cell 7)
    have r8 := Lib.hid ((S.at_ 0 rfl).cell 8)
    have CC := Lib.hid c
    clear S c
    go_wp2
    exact bodyPost_ret (v := .tuple #[.agg #[.int .i64 0, .int .i64 0, .int .i64 0, .int .i64 0, .int .i64 0, .int .i64 0, .int .i64 0, .int .i64 0, .int .i64 0], .bool false]) (by simp [results, Try.results22, go_sem, r0.out, r1.out, r2.out, r3.out, r4.out, r5.out, r6.out, r7.out, r8.out]) rfl ⟨by first | (rw [HV.out]; done) | (rw [HV.out]; rfl), CC.out⟩
  case true =>
    have HK := Lib.hid hok
    have HX := Lib.hid ((bookB_mk x0 x1 l).1 hok).1
    have ew : IntKind.i64.wrap (x0 + 1) = x0 + 1 := by have := HX.out; rw [IntKind.wrap_i64]; omega
    have hlast : lastB ⟨x0, x1, l⟩ = x0 + (n : Int) := by unfold lastB; rw [show (⟨x0, x1, l⟩ : BookM).ents.length = n from hl]
    cases hin : inB i (x0 + 1) (x0 + (n : Int))
    case false =>
      have HI := Lib.hid hin
      have HV := Lib.hid (show atM ⟨x0, x1, l⟩ i = (ent0, false) by unfold atM; rw [if_pos hok, if_neg (by rw [hlast, hin]; decide)])
      clear hok h hel hcm hl hin hlast
      have S := Sep.nil w w.heap.size
      have c := Below.refl w.heap.size w
      replace S := S.boxAt c.size (w.heap.size) rfl #[.int .i64 x0, .int .i64 x1, .slice A n cc] 29
      replace c := c.alloc c.size (.cells #[.int .i64 x0, .int .i64 x1, .slice A n cc] 29)
      replace S := S.boxAt c.size (w.heap.size + 1) (by simp) #[.int .i64 0, .int .i64 0, .int .i64 0, .int .i64 0, .int .i64 0, .int .i64 0, .int .i64 0, .int .i64 0, .int .i64 0] 37
      replace c := c.alloc c.size (.cells #[.int .i64 0, .int .i64 0, .int .i64 0, .int .i64 0, .int .i64 0, .int .i64 0, .int .i64 0, .int .i64 0, .int .i64 0] 37)
      go_enter Try.func22, Try.ntmps22
      have f0 : ((w.alloc (.cells #[.int .i64 x0, .int .i64 x1, .slice A n cc] 29)).alloc (.cells #[.int .i64 0, .int .i64 0, .int .i64 0, .int .i64 0, .int .i64 0, .int .i64 0, .int .i64 0, .int .i64 0, .int .i64 0] 37)).cell? ⟨w.heap.size, 0, none⟩ = some (.int .i64 x0) := (S.at_ 1 rfl).cell 0
      have f1 : ((w.alloc (.cells #[.int .i64 x0, .int .i64 x1, .slice A n cc] 29)).alloc (.cells #[.int .i64 0, .int .i64 0, .int .i64 0, .int .i64 0, .int .i64 0, .int .i64 0, .int .i64 0, .int .i64 0, .int .i64 0] 37)).cell? ⟨w.heap.size, 1, none⟩ = some (.int .i64 x1) := (S.at_ 1 rfl).cell 1
      have f2 : ((w.alloc (.cells #[.int .i64 x0, .int .i64 x1, .slice A n cc] 29)).alloc (.cells #[.int .i64 0, .int .i64 0, .int .i64 0, .int .i64 0, .int .i64 0, .int .i64 0, .int .i64 0, .int .i64 0, .int .i64 0] 37)).cell? ⟨w.heap.size, 2, none⟩ = some (.slice A n cc) := (S.at_ 1 rfl).cell 2
      go_wp2_with fail
      generalize (w.alloc (.cells #[.int .i64 x0, .int .i64 x1, .slice A n cc] 29)).alloc (.cells #[.int .i64 0, .int .i64 0, .int .i64 0, .int .i64 0, .int .i64 0, .int .i64 0, .int .i64 0, .int .i64 0, .int .i64 0] 37) = w1 at *
      have hrd := HH.out.keep (c.mono hB)
      have hbs := Nat.le_trans hB c.size
      refine wp_region_cls (fun v => v.cell? ⟨w.heap.size, 0, none⟩ = some (.int .i64 x0) ∧ v.cell? ⟨w.heap.size, 1, none⟩ = some (.int .i64 x1) ∧ v.cell? ⟨w.heap.size, 2, none⟩ = some (.slice A n cc) ∧ Rd v B [entD l] [.slice A n cc] ∧ B ≤ v.heap.size) (by kernel_rfl) (by kernel_rfl) (fun v hv => ⟨(hv.cell (p := ⟨w.heap.size, 0, none⟩) (lt_of_cell f0)).trans f0, (hv.cell (p := ⟨w.heap.size, 1, none⟩) (lt_of_cell f1)).trans f1, (hv.cell (p := ⟨w.heap.size, 2, none⟩) (lt_of_cell f2)).trans f2, hrd.keep (hv.mono hbs), Nat.le_trans hbs hv.size⟩) ?_
      intro CL HF HC
      repeat
        (first
           | go_big_quiet_skip
           | (go_big_quiet_want
              go_big_quiet_op
              first
                | go_big_quiet_on
                | (apply Exists.intro
                   refine ⟨fun v hv => ?_, ?_⟩
                   · obtain ⟨a0, a1, a2, a3, a4⟩ := HF v hv
                     first
                       | (go_at_call 14; exact Calls.cls HC hv (sBookOk_any x0 x1 A n cc B l v a3 a4 hs) (congrArg Value.bool HK.out))
                       | (go_at_call 52; exact Calls.cls HC hv (sLast_any x0 x1 A n cc v (by have := HX.out; omega) hn) rfl)
                       | (go_at_call 45; exact Calls.cls HC hv (in_at i (x0 + 1) (x0 + (n : Int)) v) (congrArg Value.bool HI.out))
                       | exact rfl
                       | (go_simp; exact rfl)
                       | (go_simp; exact ⟨rfl, hv⟩)
                   go_big_quiet_on)))
      refine wpQuiet_nil ?_
      intro w9 b9
      replace c := c.trans (b9.mono c.size)
      replace S := S.keep b9
      clear b9 hrd hbs f0 f1 f2
      have f3 : w9.cell? ⟨w.heap.size + 1, 0, none⟩ = some (.int .i64 0) := (S.at_ 0 rfl).cell 0
      have f4 := (S.at_ 0 rfl).free 0
      have f5 : w9.cell? ⟨w.heap.size + 1, 1, none⟩ = some (.int .i64 0) := (S.at_ 0 rfl).cell 1
      have f6 := (S.at_ 0 rfl).free 1
      have f7 : w9.cell? ⟨w.heap.size + 1, 2, none⟩ = some (.int .i64 0) := (S.at_ 0 rfl).cell 2
      have f8 := (S.at_ 0 rfl).free 2
      have f9 : w9.cell? ⟨w.heap.size + 1, 3, none⟩ = some (.int .i64 0) := (S.at_ 0 rfl).cell 3
      have f10 := (S.at_ 0 rfl).free 3
      have f11 : w9.cell? ⟨w.heap.size + 1, 4, none⟩ = some (.int .i64 0) := (S.at_ 0 rfl).cell 4
      have f12 := (S.at_ 0 rfl).free 4
      have f13 : w9.cell? ⟨w.heap.size + 1, 5, none⟩ = some (.int .i64 0) := (S.at_ 0 rfl).cell 5
      have f14 := (S.at_ 0 rfl).free 5
      have f15 : w9.cell? ⟨w.heap.size + 1, 6, none⟩ = some (.int .i64 0) := (S.at_ 0 rfl).cell 6
      have f16 := (S.at_ 0 rfl).free 6
      have f17 : w9.cell? ⟨w.heap.size + 1, 7, none⟩ = some (.int .i64 0) := (S.at_ 0 rfl).cell 7
      have f18 := (S.at_ 0 rfl).free 7
      have f19 : w9.cell? ⟨w.heap.size + 1, 8, none⟩ = some (.int .i64 0) := (S.at_ 0 rfl).cell 8
      have f20 := (S.at_ 0 rfl).free 8
      replace S := S.put 0 rfl 0 (.int .i64 0)
      replace c := c.setCell (p := ⟨w.heap.size + 1, 0, none⟩) (by show w.heap.size ≤ w.heap.size + 1; omega) (.int .i64 0)
      replace S := S.put 0 rfl 1 (.int .i64 0)
      replace c := c.setCell (p := ⟨w.heap.size + 1, 1, none⟩) (by show w.heap.size ≤ w.heap.size + 1; omega) (.int .i64 0)
      replace S := S.put 0 rfl 2 (.int .i64 0)
      replace c := c.setCell (p := ⟨w.heap.size + 1, 2, none⟩) (by show w.heap.size ≤ w.heap.size + 1; omega) (.int .i64 0)
      replace S := S.put 0 rfl 3 (.int .i64 0)
      replace c := c.setCell (p := ⟨w.heap.size + 1, 3, none⟩) (by show w.heap.size ≤ w.heap.size + 1; omega) (.int .i64 0)
      replace S := S.put 0 rfl 4 (.int .i64 0)
      replace c := c.setCell (p := ⟨w.heap.size + 1, 4, none⟩) (by show w.heap.size ≤ w.heap.size + 1; omega) (.int .i64 0)
      replace S := S.put 0 rfl 5 (.int .i64 0)
      replace c := c.setCell (p := ⟨w.heap.size + 1, 5, none⟩) (by show w.heap.size ≤ w.heap.size + 1; omega) (.int .i64 0)
      replace S := S.put 0 rfl 6 (.int .i64 0)
      replace c := c.setCell (p := ⟨w.heap.size + 1, 6, none⟩) (by show w.heap.size ≤ w.heap.size + 1; omega) (.int .i64 0)
      replace S := S.put 0 rfl 7 (.int .i64 0)
      replace c := c.setCell (p := ⟨w.heap.size + 1, 7, none⟩) (by show w.heap.size ≤ w.heap.size + 1; omega) (.int .i64 0)
      replace S := S.put 0 rfl 8 (.int .i64 0)
      replace c := c.setCell (p := ⟨w.heap.size + 1, 8, none⟩) (by show w.heap.size ≤ w.heap.size + 1; omega) (.int .i64 0)
      have r0 := Lib.hid ((S.at_ 0 rfl).cell 0)
      have r1 := Lib.hid ((S.at_ 0 rfl).cell 1)
      have r2 := Lib.hid ((S.at_ 0 rfl).cell 2)
      have r3 := Lib.hid ((S.at_ 0 rfl).cell 3)
      have r4 := Lib.hid ((S.at_ 0 rfl).cell 4)
      have r5 := Lib.hid ((S.at_ 0 rfl).cell 5)
      have r6 := Lib.hid ((S.at_ 0 rfl).cell 6)
      have r7 := Lib.hid ((S.at_ 0 rfl).cell 7)
      have r8 := Lib.hid ((S.at_ 0 rfl).cell 8)
      have CC := Lib.hid c
      clear S c
      go_wp2
      exact bodyPost_ret (v := .tuple #[.agg #[.int .i64 0, .int .i64 0, .int .i64 0, .int .i64 0, .int .i64 0, .int .i64 0, .int .i64 0, .int .i64 0, .int .i64 0], .bool false]) (by simp [results, Try.results22, go_sem, r0.out, r1.out, r2.out, r3.out, r4.out, r5.out, r6.out, r7.out, r8.out]) rfl ⟨by first | (rw [HV.out]; done) | (rw [HV.out]; rfl), CC.out⟩
    case true =>
      have HI := Lib.hid hin
      have hi := (inB_iff _ _ _).1 hin
      obtain ⟨j, hj⟩ : ∃ j : Nat, i - x0 = (j : Int) + 1 := ⟨(i - x0 - 1).toNat, by omega⟩
      have hjl : j < l.length := by omega
      obtain ⟨b, off, rfl, hb, hc⟩ := hel (by omega)
      obtain ⟨h0, h1, h2, h3, h4, h5, h6, h7, h8⟩ := hc j hjl
      obtain ⟨z0, hz0⟩ : ∃ y, y = l[j].idx := ⟨_, rfl⟩
      rw [← hz0] at h0
      obtain ⟨z1, hz1⟩ : ∃ y, y = l[j].tm := ⟨_, rfl⟩
      rw [← hz1] at h1
      obtain ⟨z2, hz2⟩ : ∃ y, y = l[j].cl := ⟨_, rfl⟩
      rw [← hz2] at h2
      obtain ⟨z3, hz3⟩ : ∃ y, y = l[j].sq := ⟨_, rfl⟩
      rw [← hz3] at h3
      obtain ⟨z4, hz4⟩ : ∃ y, y = l[j].kd := ⟨_, rfl⟩
      rw [← hz4] at h4
      obtain ⟨z5, hz5⟩ : ∃ y, y = l[j].oa := ⟨_, rfl⟩
      rw [← hz5] at h5
      obtain ⟨z6, hz6⟩ : ∃ y, y = l[j].ob := ⟨_, rfl⟩
      rw [← hz6] at h6
      obtain ⟨z7, hz7⟩ : ∃ y, y = l[j].oc := ⟨_, rfl⟩
      rw [← hz7] at h7
      obtain ⟨z8, hz8⟩ : ∃ y, y = l[j].od := ⟨_, rfl⟩
      rw [← hz8] at h8
      have hmk : l[j] = ⟨z0, z1, z2, z3, z4, z5, z6, z7, z8⟩ := by rw [hz0, hz1, hz2, hz3, hz4, hz5, hz6, hz7, hz8]
      have HV := Lib.hid (show atM ⟨x0, x1, l⟩ i = (⟨z0, z1, z2, z3, z4, z5, z6, z7, z8⟩, true) by unfold atM; rw [if_pos hok, if_pos (by rw [hlast]; exact hin), show (i - x0 - 1).toNat = j by omega, egetD hjl, hmk])
      have hw1 : IntKind.i64.wrap (i - x0) = (j : Int) + 1 := by have := HX.out; rw [IntKind.wrap_i64]; omega
      have ep : IntKind.i64.wrap (j : Int) = (j : Int) := by rw [IntKind.wrap_i64]; omega
      have j0 : (0 : Int) ≤ (j : Int) := by omega
      have j1 : (j : Int) < (n : Int) := by omega
      clear hok h hel hc hcm hl hin hlast hi hj hmk hz0 hz1 hz2 hz3 hz4 hz5 hz6 hz7 hz8
      have S := Sep.nil w w.heap.size
      have c := Below.refl w.heap.size w
      replace S := S.boxAt c.size (w.heap.size) rfl #[.int .i64 x0, .int .i64 x1, .slice (some ⟨b, off, none⟩) n cc] 29
      replace c := c.alloc c.size (.cells #[.int .i64 x0, .int .i64 x1, .slice (some ⟨b, off, none⟩) n cc] 29)
      replace S := S.boxAt c.size (w.heap.size + 1) (by simp) #[.int .i64 0, .int .i64 0, .int .i64 0, .int .i64 0, .int .i64 0, .int .i64 0, .int .i64 0, .int .i64 0, .int .i64 0] 37
      replace c := c.alloc c.size (.cells #[.int .i64 0, .int .i64 0, .int .i64 0, .int .i64 0, .int .i64 0, .int .i64 0, .int .i64 0, .int .i64 0, .int .i64 0] 37)
      go_enter Try.func22, Try.ntmps22
      have f0 : ((w.alloc (.cells #[.int .i64 x0, .int .i64 x1, .slice (some ⟨b, off, none⟩) n cc] 29)).alloc (.cells #[.int .i64 0, .int .i64 0, .int .i64 0, .int .i64 0, .int .i64 0, .int .i64 0, .int .i64 0, .int .i64 0, .int .i64 0] 37)).cell? ⟨w.heap.size, 0, none⟩ = some (.int .i64 x0) := (S.at_ 1 rfl).cell 0
      have f1 : ((w.alloc (.cells #[.int .i64 x0, .int .i64 x1, .slice (some ⟨b, off, none⟩) n cc] 29)).alloc (.cells #[.int .i64 0, .int .i64 0, .int .i64 0, .int .i64 0, .int .i64 0, .int .i64 0, .int .i64 0, .int .i64 0, .int .i64 0] 37)).cell? ⟨w.heap.size, 1, none⟩ = some (.int .i64 x1) := (S.at_ 1 rfl).cell 1
      have f2 : ((w.alloc (.cells #[.int .i64 x0, .int .i64 x1, .slice (some ⟨b, off, none⟩) n cc] 29)).alloc (.cells #[.int .i64 0, .int .i64 0, .int .i64 0, .int .i64 0, .int .i64 0, .int .i64 0, .int .i64 0, .int .i64 0, .int .i64 0] 37)).cell? ⟨w.heap.size, 2, none⟩ = some (.slice (some ⟨b, off, none⟩) n cc) := (S.at_ 1 rfl).cell 2
      go_wp2_with fail
      generalize (w.alloc (.cells #[.int .i64 x0, .int .i64 x1, .slice (some ⟨b, off, none⟩) n cc] 29)).alloc (.cells #[.int .i64 0, .int .i64 0, .int .i64 0, .int .i64 0, .int .i64 0, .int .i64 0, .int .i64 0, .int .i64 0, .int .i64 0] 37) = w1 at *
      have hrd := HH.out.keep (c.mono hB)
      have hbs := Nat.le_trans hB c.size
      refine wp_region_cls (fun v => v.cell? ⟨w.heap.size, 0, none⟩ = some (.int .i64 x0) ∧ v.cell? ⟨w.heap.size, 1, none⟩ = some (.int .i64 x1) ∧ v.cell? ⟨w.heap.size, 2, none⟩ = some (.slice (some ⟨b, off, none⟩) n cc) ∧ Rd v B [entD l] [.slice (some ⟨b, off, none⟩) n cc] ∧ B ≤ v.heap.size) (by kernel_rfl) (by kernel_rfl) (fun v hv => ⟨(hv.cell (p := ⟨w.heap.size, 0, none⟩) (lt_of_cell f0)).trans f0, (hv.cell (p := ⟨w.heap.size, 1, none⟩) (lt_of_cell f1)).trans f1, (hv.cell (p := ⟨w.heap.size, 2, none⟩) (lt_of_cell f2)).trans f2, hrd.keep (hv.mono hbs), Nat.le_trans hbs hv.size⟩) ?_
      intro CL HF HC
      repeat
        (first
           | go_big_quiet_skip
           | (go_big_quiet_want
              go_big_quiet_op
              first
                | go_big_quiet_on
                | (apply Exists.intro
                   refine ⟨fun v hv => ?_, ?_⟩
                   · obtain ⟨a0, a1, a2, a3, a4⟩ := HF v hv
                     first
                       | (go_at_call 14; exact Calls.cls HC hv (sBookOk_any x0 x1 ((some ⟨b, off, none⟩)) n cc B l v a3 a4 hs) (congrArg Value.bool HK.out))
                       | (go_at_call 52; exact Calls.cls HC hv (sLast_any x0 x1 ((some ⟨b, off, none⟩)) n cc v (by have := HX.out; omega) hn) rfl)
                       | (go_at_call 45; exact Calls.cls HC hv (in_at i (x0 + 1) (x0 + (n : Int)) v) (congrArg Value.bool HI.out))
                       | exact rfl
                       | (go_simp; exact rfl)
                       | (go_simp; exact ⟨rfl, hv⟩)
                   go_big_quiet_on)))
      refine wpQuiet_nil ?_
      intro w9 b9
      replace c := c.trans (b9.mono c.size)
      replace S := S.keep b9
      clear b9 hrd hbs f0 f1 f2
      have k0 := (c.cell (p := ⟨b, off + j * 9, none⟩) (show b < _ by omega)).trans h0
      have k1 := (c.cell (p := ⟨b, off + j * 9 + 1, none⟩) (show b < _ by omega)).trans h1
      have k2 := (c.cell (p := ⟨b, off + j * 9 + 2, none⟩) (show b < _ by omega)).trans h2
      have k3 := (c.cell (p := ⟨b, off + j * 9 + 3, none⟩) (show b < _ by omega)).trans h3
      have k4 := (c.cell (p := ⟨b, off + j * 9 + 4, none⟩) (show b < _ by omega)).trans h4
      have k5 := (c.cell (p := ⟨b, off + j * 9 + 5, none⟩) (show b < _ by omega)).trans h5
      have k6 := (c.cell (p := ⟨b, off + j * 9 + 6, none⟩) (show b < _ by omega)).trans h6
      have k7 := (c.cell (p := ⟨b, off + j * 9 + 7, none⟩) (show b < _ by omega)).trans h7
      have k8 := (c.cell (p := ⟨b, off + j * 9 + 8, none⟩) (show b < _ by omega)).trans h8
      have f3 : w9.cell? ⟨w.heap.size, 0, none⟩ = some (.int .i64 x0) := (S.at_ 1 rfl).cell 0
      have f4 : w9.cell? ⟨w.heap.size, 1, none⟩ = some (.int .i64 x1) := (S.at_ 1 rfl).cell 1
      have f5 : w9.cell? ⟨w.heap.size, 2, none⟩ = some (.slice (some ⟨b, off, none⟩) n cc) := (S.at_ 1 rfl).cell 2
      have f6 : w9.cell? ⟨w.heap.size + 1, 0, none⟩ = some (.int .i64 0) := (S.at_ 0 rfl).cell 0
      have f7 := (S.at_ 0 rfl).free 0
      have f8 : w9.cell? ⟨w.heap.size + 1, 1, none⟩ = some (.int .i64 0) := (S.at_ 0 rfl).cell 1
      have f9 := (S.at_ 0 rfl).free 1
      have f10 : w9.cell? ⟨w.heap.size + 1, 2, none⟩ = some (.int .i64 0) := (S.at_ 0 rfl).cell 2
      have f11 := (S.at_ 0 rfl).free 2
      have f12 : w9.cell? ⟨w.heap.size + 1, 3, none⟩ = some (.int .i64 0) := (S.at_ 0 rfl).cell 3
      have f13 := (S.at_ 0 rfl).free 3
      have f14 : w9.cell? ⟨w.heap.size + 1, 4, none⟩ = some (.int .i64 0) := (S.at_ 0 rfl).cell 4
      have f15 := (S.at_ 0 rfl).free 4
      have f16 : w9.cell? ⟨w.heap.size + 1, 5, none⟩ = some (.int .i64 0) := (S.at_ 0 rfl).cell 5
      have f17 := (S.at_ 0 rfl).free 5
      have f18 : w9.cell? ⟨w.heap.size + 1, 6, none⟩ = some (.int .i64 0) := (S.at_ 0 rfl).cell 6
      have f19 := (S.at_ 0 rfl).free 6
      have f20 : w9.cell? ⟨w.heap.size + 1, 7, none⟩ = some (.int .i64 0) := (S.at_ 0 rfl).cell 7
      have f21 := (S.at_ 0 rfl).free 7
      have f22 : w9.cell? ⟨w.heap.size + 1, 8, none⟩ = some (.int .i64 0) := (S.at_ 0 rfl).cell 8
      have f23 := (S.at_ 0 rfl).free 8
      replace S := S.put 0 rfl 0 (.int .i64 z0)
      replace c := c.setCell (p := ⟨w.heap.size + 1, 0, none⟩) (by show w.heap.size ≤ w.heap.size + 1; omega) (.int .i64 z0)
      replace S := S.put 0 rfl 1 (.int .i64 z1)
      replace c := c.setCell (p := ⟨w.heap.size + 1, 1, none⟩) (by show w.heap.size ≤ w.heap.size + 1; omega) (.int .i64 z1)
      replace S := S.put 0 rfl 2 (.int .i64 z2)
      replace c := c.setCell (p := ⟨w.heap.size + 1, 2, none⟩) (by show w.heap.size ≤ w.heap.size + 1; omega) (.int .i64 z2)
      replace S := S.put 0 rfl 3 (.int .i64 z3)
      replace c := c.setCell (p := ⟨w.heap.size + 1, 3, none⟩) (by show w.heap.size ≤ w.heap.size + 1; omega) (.int .i64 z3)
      replace S := S.put 0 rfl 4 (.int .i64 z4)
      replace c := c.setCell (p := ⟨w.heap.size + 1, 4, none⟩) (by show w.heap.size ≤ w.heap.size + 1; omega) (.int .i64 z4)
      replace S := S.put 0 rfl 5 (.int .i64 z5)
      replace c := c.setCell (p := ⟨w.heap.size + 1, 5, none⟩) (by show w.heap.size ≤ w.heap.size + 1; omega) (.int .i64 z5)
      replace S := S.put 0 rfl 6 (.int .i64 z6)
      replace c := c.setCell (p := ⟨w.heap.size + 1, 6, none⟩) (by show w.heap.size ≤ w.heap.size + 1; omega) (.int .i64 z6)
      replace S := S.put 0 rfl 7 (.int .i64 z7)
      replace c := c.setCell (p := ⟨w.heap.size + 1, 7, none⟩) (by show w.heap.size ≤ w.heap.size + 1; omega) (.int .i64 z7)
      replace S := S.put 0 rfl 8 (.int .i64 z8)
      replace c := c.setCell (p := ⟨w.heap.size + 1, 8, none⟩) (by show w.heap.size ≤ w.heap.size + 1; omega) (.int .i64 z8)
      have r0 := Lib.hid ((S.at_ 0 rfl).cell 0)
      have r1 := Lib.hid ((S.at_ 0 rfl).cell 1)
      have r2 := Lib.hid ((S.at_ 0 rfl).cell 2)
      have r3 := Lib.hid ((S.at_ 0 rfl).cell 3)
      have r4 := Lib.hid ((S.at_ 0 rfl).cell 4)
      have r5 := Lib.hid ((S.at_ 0 rfl).cell 5)
      have r6 := Lib.hid ((S.at_ 0 rfl).cell 6)
      have r7 := Lib.hid ((S.at_ 0 rfl).cell 7)
      have r8 := Lib.hid ((S.at_ 0 rfl).cell 8)
      have CC := Lib.hid c
      clear S c
      go_wp2
      exact bodyPost_ret (v := .tuple #[.agg #[.int .i64 z0, .int .i64 z1, .int .i64 z2, .int .i64 z3, .int .i64 z4, .int .i64 z5, .int .i64 z6, .int .i64 z7, .int .i64 z8], .bool true]) (by simp [results, Try.results22, go_sem, r0.out, r1.out, r2.out, r3.out, r4.out, r5.out, r6.out, r7.out, r8.out]) rfl ⟨by first | (rw [HV.out]; done) | (rw [HV.out]; rfl), CC.out⟩

end Go.Proofs.Ytnjfdnjakogpmaa
