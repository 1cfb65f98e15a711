/-
  Chapter 8: a book trimmed and taken back, of the model (by program, wip/gen/genbooks5.py).
-/
import Derived.Test.YtnjfdnjakogpmaaBookS3
import Derived.Test.YtnjfdnjakogpmaaBookT
import Derived.RegionTactic
import Derived.BigQuiet
import Derived.Laws.EntriesVeiled
import Derived.Deep.DeepCutAuto
namespace Go.Proofs.Ytnjfdnjakogpmaa
set_option maxRecDepth 100000
open Go.RowKit

set_option maxHeartbeats 12800000 in
theorem sTrim_any (x0 x1 : Int) (A : Option Addr) (n cc B : Nat) (l : List EntM) (i : Int) (w : World) (h : Rd w B [entD l] [.slice A n cc]) (hB : B ≤ w.heap.size) (hs : entSz l ≤ 1048577) :
    Calls Try.prog 36 #[.agg #[.int .i64 x0, .int .i64 x1, .slice A n cc], .int .i64 i] w (MadeB w (trimM ⟨x0, x1, l⟩ i)) := by
  have HH := Lib.hid h
  obtain ⟨_, _, _, e, hl, hnc, hcm, hel⟩ := h.ents
  injection e with e1 e2 e3
  subst e1 e2 e3
  have hn : n ≤ 1048577 := by unfold entSz at hs; omega
  have HL := Lib.hid hl
  clear hel h
  have S := Sep.nil w w.heap.size
  have c := Below.refl w.heap.size w
  replace S := S.boxAt c.size (w.heap.size) rfl #[.int .i64 x0, .int .i64 x1, .slice A n cc] 29
  replace c := c.alloc c.size (.cells #[.int .i64 x0, .int .i64 x1, .slice A n cc] 29)
  replace S := S.boxAt c.size (w.heap.size + 1) (by simp) #[.int .i64 0, .int .i64 0, .slice none 0 0] 29
  replace c := c.alloc c.size (.cells #[.int .i64 0, .int .i64 0, .slice none 0 0] 29)
  go_enter Try.func36, Try.ntmps36
  have f0 : ((w.alloc (.cells #[.int .i64 x0, .int .i64 x1, .slice A n cc] 29)).alloc (.cells #[.int .i64 0, .int .i64 0, .slice none 0 0] 29)).cell? ⟨w.heap.size, 0, none⟩ = some (.int .i64 x0) := (S.at_ 1 rfl).cell 0
  have f1 : ((w.alloc (.cells #[.int .i64 x0, .int .i64 x1, .slice A n cc] 29)).alloc (.cells #[.int .i64 0, .int .i64 0, .slice none 0 0] 29)).cell? ⟨w.heap.size, 1, none⟩ = some (.int .i64 x1) := (S.at_ 1 rfl).cell 1
  have f2 : ((w.alloc (.cells #[.int .i64 x0, .int .i64 x1, .slice A n cc] 29)).alloc (.cells #[.int .i64 0, .int .i64 0, .slice none 0 0] 29)).cell? ⟨w.heap.size, 2, none⟩ = some (.slice A n cc) := (S.at_ 1 rfl).cell 2
  go_wp2_with fail
  generalize (w.alloc (.cells #[.int .i64 x0, .int .i64 x1, .slice A n cc] 29)).alloc (.cells #[.int .i64 0, .int .i64 0, .slice none 0 0] 29) = w1 at *
  refine (sBookOk_any x0 x1 A n cc B l _ (HH.out.keep (c.mono hB)) (Nat.le_trans hB c.size) hs).mono ?_
  rintro e w2 ⟨rfl, b2⟩
  replace c := c.trans (b2.mono c.size)
  replace S := S.keep b2
  clear b2 f0 f1 f2
  cases hok : bookB ⟨x0, x1, l⟩
  case false =>
    have HV := Lib.hid (show trimM ⟨x0, x1, l⟩ i = (book0, false) by unfold trimM; rw [hok]; rfl)
    have f3 : w2.cell? ⟨w.heap.size + 1, 0, none⟩ = some (.int .i64 0) := (S.at_ 0 rfl).cell 0
    have f4 := (S.at_ 0 rfl).free 0
    have f5 : w2.cell? ⟨w.heap.size + 1, 1, none⟩ = some (.int .i64 0) := (S.at_ 0 rfl).cell 1
    have f6 := (S.at_ 0 rfl).free 1
    have f7 : w2.cell? ⟨w.heap.size + 1, 2, none⟩ = some (.slice none 0 0) := (S.at_ 0 rfl).cell 2
    have f8 := (S.at_ 0 rfl).free 2
    replace S := S.put 0 rfl 0 (.int .i64 0)
    replace c := c.setCell (p := ⟨w.heap.size + 1, 0, none⟩) (by show w.heap.size ≤ w.heap.size + 1; omega) (.int .i64 0)
    replace S := S.put 0 rfl 1 (.int .i64 0)
    replace c := c.setCell (p := ⟨w.heap.size + 1, 1, none⟩) (by show w.heap.size ≤ w.heap.size + 1; omega) (.int .i64 0)
    replace S := S.put 0 rfl 2 (.slice none 0 0)
    replace c := c.setCell (p := ⟨w.heap.size + 1, 2, none⟩) (by show w.heap.size ≤ w.heap.size + 1; omega) (.slice none 0 0)
    clear hok
    have r0 := Lib.hid ((S.at_ 0 rfl).cell 0)
    have r1 := Lib.hid ((S.at_ 0 rfl).cell 1)
    have r2 := Lib.hid ((S.at_ 0 rfl).cell 2)
    have CC := Lib.hid c
    clear S c
    go_wp2
    exact bodyPost_ret (v := .tuple #[.agg #[.int .i64 0, .int .i64 0, .slice none 0 0], .bool false]) (by simp [results, Try.results36, go_sem, r0.out, r1.out, r2.out]) rfl ⟨_, _, _, _, _, by rw [HV.out], by rw [HV.out]; exact has_book0 _ _, CC.out⟩
  case true =>
    have HX := Lib.hid ((bookB_mk x0 x1 l).1 hok).1
    have hlast : lastB ⟨x0, x1, l⟩ = x0 + (n : Int) := by unfold lastB; rw [show (⟨x0, x1, l⟩ : BookM).ents.length = n from hl]
    have HM := Lib.hid (show ∀ q, inB i x0 (x0 + (n : Int)) = q → trimM ⟨x0, x1, l⟩ i = if q = true then (⟨i, timeAt ⟨x0, x1, l⟩ i, l.drop (i - x0).toNat⟩, true) else (⟨x0, x1, l⟩, false) from fun q hq => by unfold trimM inBook; rw [if_pos hok, hlast]; simp only [hq])
    clear hok hlast
    have hrd := HH.out.keep (c.mono hB)
    have hbs := Nat.le_trans hB c.size
    have f3 : w2.cell? ⟨w.heap.size, 0, none⟩ = some (.int .i64 x0) := (S.at_ 1 rfl).cell 0
    have f4 : w2.cell? ⟨w.heap.size, 1, none⟩ = some (.int .i64 x1) := (S.at_ 1 rfl).cell 1
    have f5 : w2.cell? ⟨w.heap.size, 2, none⟩ = some (.slice A n cc) := (S.at_ 1 rfl).cell 2
    go_wp2_with fail
    cases hin : inB i x0 (x0 + (n : Int))
    case false =>
      have HI := Lib.hid hin
      refine wp_region_cls (fun v => v.cell? ⟨w.heap.size, 0, none⟩ = some (.int .i64 x0) ∧ v.cell? ⟨w.heap.size, 1, none⟩ = some (.int .i64 x1) ∧ v.cell? ⟨w.heap.size, 2, none⟩ = some (.slice A n cc)) (by kernel_rfl) (by kernel_rfl) (fun v hv => ⟨(hv.cell (p := ⟨w.heap.size, 0, none⟩) (lt_of_cell f3)).trans f3, (hv.cell (p := ⟨w.heap.size, 1, none⟩) (lt_of_cell f4)).trans f4, (hv.cell (p := ⟨w.heap.size, 2, none⟩) (lt_of_cell f5)).trans f5⟩) ?_
      intro CL HF HC
      repeat
        (first
           | go_big_quiet_skip
           | (go_big_quiet_want
              go_big_quiet_op
              first
                | go_big_quiet_on
                | (apply Exists.intro
                   refine ⟨fun v hv => ?_, ?_⟩
                   · obtain ⟨a0, a1, a2⟩ := HF v hv
                     first
                       | (go_at_call 52; exact Calls.cls HC hv (sLast_any x0 x1 A n cc v (by have := HX.out; omega) hn) rfl)
                       | (go_at_call 45; exact Calls.cls HC hv (in_at i x0 (x0 + (n : Int)) v) (congrArg Value.bool HI.out))
                       | exact rfl
                       | (go_simp; exact rfl)
                       | (go_simp; exact ⟨rfl, hv⟩)
                   go_big_quiet_on)))
      refine wpQuiet_nil ?_
      intro w9 b9
      replace c := c.trans (b9.mono c.size)
      replace S := S.keep b9
      clear b9 hrd hbs f3 f4 f5
      have HV := Lib.hid ((HM.out false hin).trans (if_neg (by decide)))
      clear hin
      have f6 : w9.cell? ⟨w.heap.size, 0, none⟩ = some (.int .i64 x0) := (S.at_ 1 rfl).cell 0
      have f7 : w9.cell? ⟨w.heap.size, 1, none⟩ = some (.int .i64 x1) := (S.at_ 1 rfl).cell 1
      have f8 : w9.cell? ⟨w.heap.size, 2, none⟩ = some (.slice A n cc) := (S.at_ 1 rfl).cell 2
      go_wp2_with fail
      refine (sCopy_any x0 x1 A n cc B l _ (HH.out.keep (c.mono hB)) (Nat.le_trans hB c.size) hs).mono ?_
      rintro e w3 ⟨A2, c2, rfl, o, b2⟩
      obtain ⟨fp_u, S'⟩ := S.has b2 o c.size
      replace c := c.trans (b2.mono c.size)
      clear S; have S := S'; clear S' o b2 f6 f7 f8
      have f9 : w3.cell? ⟨w.heap.size + 1, 0, none⟩ = some (.int .i64 0) := (S.at_ 1 rfl).cell 0
      have f10 := (S.at_ 1 rfl).free 0
      have f11 : w3.cell? ⟨w.heap.size + 1, 1, none⟩ = some (.int .i64 0) := (S.at_ 1 rfl).cell 1
      have f12 := (S.at_ 1 rfl).free 1
      have f13 : w3.cell? ⟨w.heap.size + 1, 2, none⟩ = some (.slice none 0 0) := (S.at_ 1 rfl).cell 2
      have f14 := (S.at_ 1 rfl).free 2
      replace S := S.put 1 rfl 0 (.int .i64 x0)
      replace c := c.setCell (p := ⟨w.heap.size + 1, 0, none⟩) (by show w.heap.size ≤ w.heap.size + 1; omega) (.int .i64 x0)
      replace S := S.put 1 rfl 1 (.int .i64 x1)
      replace c := c.setCell (p := ⟨w.heap.size + 1, 1, none⟩) (by show w.heap.size ≤ w.heap.size + 1; omega) (.int .i64 x1)
      replace S := S.put 1 rfl 2 (.slice A2 n c2)
      replace c := c.setCell (p := ⟨w.heap.size + 1, 2, none⟩) (by show w.heap.size ≤ w.heap.size + 1; omega) (.slice A2 n c2)
      have H := Lib.hid S.first
      have r0 := Lib.hid ((S.at_ 1 rfl).cell 0)
      have r1 := Lib.hid ((S.at_ 1 rfl).cell 1)
      have r2 := Lib.hid ((S.at_ 1 rfl).cell 2)
      have CC := Lib.hid c
      clear S c
      go_wp2
      exact bodyPost_ret (v := .tuple #[.agg #[.int .i64 x0, .int .i64 x1, .slice A2 n c2], .bool false]) (by simp [results, Try.results36, go_sem, r0.out, r1.out, r2.out]) rfl ⟨_, _, _, _, _, by rw [HV.out], by rw [HV.out]; exact has_mk H.out, CC.out⟩
    case true =>
      have HI := Lib.hid hin
      refine wp_region_cls (fun v => v.cell? ⟨w.heap.size, 0, none⟩ = some (.int .i64 x0) ∧ v.cell? ⟨w.heap.size, 1, none⟩ = some (.int .i64 x1) ∧ v.cell? ⟨w.heap.size, 2, none⟩ = some (.slice A n cc)) (by kernel_rfl) (by kernel_rfl) (fun v hv => ⟨(hv.cell (p := ⟨w.heap.size, 0, none⟩) (lt_of_cell f3)).trans f3, (hv.cell (p := ⟨w.heap.size, 1, none⟩) (lt_of_cell f4)).trans f4, (hv.cell (p := ⟨w.heap.size, 2, none⟩) (lt_of_cell f5)).trans f5⟩) ?_
      intro CL HF HC
      repeat
        (first
           | go_big_quiet_skip
           | (go_big_quiet_want
              go_big_quiet_op
              first
                | go_big_quiet_on
                | (apply Exists.intro
                   refine ⟨fun v hv => ?_, ?_⟩
                   · obtain ⟨a0, a1, a2⟩ := HF v hv
                     first
                       | (go_at_call 52; exact Calls.cls HC hv (sLast_any x0 x1 A n cc v (by have := HX.out; omega) hn) rfl)
                       | (go_at_call 45; exact Calls.cls HC hv (in_at i x0 (x0 + (n : Int)) v) (congrArg Value.bool HI.out))
                       | exact rfl
                       | (go_simp; exact rfl)
                       | (go_simp; exact ⟨rfl, hv⟩)
                   go_big_quiet_on)))
      refine wpQuiet_nil ?_
      intro w9 b9
      replace c := c.trans (b9.mono c.size)
      replace S := S.keep b9
      clear b9 hrd hbs f3 f4 f5
      have HV := Lib.hid ((HM.out true hin).trans (if_pos rfl))
      have hi := (inB_iff _ _ _).1 hin
      obtain ⟨d, hd⟩ : ∃ d : Nat, i - x0 = (d : Int) := ⟨(i - x0).toNat, by omega⟩
      have hdn : d ≤ n := by omega
      have hw : IntKind.i64.wrap (i - x0) = (d : Int) := by have := HX.out; rw [IntKind.wrap_i64]; omega
      have d0 : (0 : Int) ≤ (d : Int) := by omega
      have d1 : (d : Int) ≤ (n : Int) := by omega
      have HD := Lib.hid (show (i - x0).toNat = d by omega)
      rw [HD.out] at HV
      clear hin
      obtain ⟨y, hy⟩ : ∃ y, y = timeAt ⟨x0, x1, l⟩ i := ⟨_, rfl⟩
      have HY := Lib.hid hy
      rw [← hy] at HV
      clear hy hd hi
      have hback : ∀ (W : World) (B1 : Nat), Rd W B1 [entD l] [.slice A n cc] → Rd W B1 [entD (l.drop d)] [.slice (if cc = d then A else A.map (·.add (d * 9))) (n - d) (cc - d)] := fun W B1 h9 => Rd.back (A2 := if cc = d then A else A.map (·.add (d * 9))) (c' := cc - d) entC_len (by decide) h9 hdn (fun b off e h => by rw [e, if_neg (by have := hnc; omega)]; simp [Addr.add]) (by omega) (by omega)
      have HB := Lib.hid hback
      clear hback
      go_wp2_with fail
      refine wp_region_L (fun v => v.cell? ⟨w.heap.size, 0, none⟩ = some (.int .i64 x0) ∧ v.cell? ⟨w.heap.size, 1, none⟩ = some (.int .i64 x1) ∧ v.cell? ⟨w.heap.size, 2, none⟩ = some (.slice A n cc)) 14 (by kernel_rfl) ?_
      replace S := S.keep ((Below.refl _ _).drew)
      replace c := c.drew
      generalize w9.drew = w3 at *
      have HF : w3.cell? ⟨w.heap.size, 0, none⟩ = some (.int .i64 x0) ∧ w3.cell? ⟨w.heap.size, 1, none⟩ = some (.int .i64 x1) ∧ w3.cell? ⟨w.heap.size, 2, none⟩ = some (.slice A n cc) := ⟨(S.at_ 1 rfl).cell 0, (S.at_ 1 rfl).cell 1, (S.at_ 1 rfl).cell 2⟩
      refine wpAnyL_take (i := 0) (v := ?_) rfl rfl (by kernel_rfl) (by kernel_rfl) (by kernel_rfl) (by kernel_rfl) (by kernel_rfl) (fun _ _ _ h => h) HF (Or.inl ⟨by rfl, ?_⟩) ?_
      rotate_left 1
      · (rintro v ⟨a0, a1, a2⟩; go_simp; try with_reducible rfl)
      try simp only [Act.put]
      refine wpAnyL_take (i := 1) (v := ?_) rfl rfl (by kernel_rfl) (by kernel_rfl) (by kernel_rfl) (by kernel_rfl) (by kernel_rfl) (fun _ _ _ h => h) HF (Or.inl ⟨by rfl, ?_⟩) ?_
      rotate_left 1
      · (rintro v ⟨a0, a1, a2⟩; go_simp; try with_reducible rfl)
      try simp only [Act.put]
      refine wpAnyL_take (i := 2) (v := ?_) rfl rfl (by kernel_rfl) (by kernel_rfl) (by kernel_rfl) (by kernel_rfl) (by kernel_rfl) (fun _ _ _ h => h) HF (Or.inl ⟨by rfl, ?_⟩) ?_
      rotate_left 1
      · (rintro v ⟨a0, a1, a2⟩; go_simp; try with_reducible rfl)
      try simp only [Act.put]
      refine wpAnyL_take (i := 4) (v := ?_) rfl rfl (by kernel_rfl) (by kernel_rfl) (by kernel_rfl) (by kernel_rfl) (by kernel_rfl) (fun _ _ _ h => h) HF (Or.inl ⟨by rfl, ?_⟩) ?_
      rotate_left 1
      · (rintro v ⟨a0, a1, a2⟩; go_simp; try with_reducible rfl)
      try simp only [Act.put]
      refine wpAnyL_take (i := 5) (v := ?_) rfl rfl (by kernel_rfl) (by kernel_rfl) (by kernel_rfl) (by kernel_rfl) (by kernel_rfl) (fun _ _ _ h => h) HF (Or.inl ⟨by rfl, ?_⟩) ?_
      rotate_left 1
      · (rintro v ⟨a0, a1, a2⟩; go_simp; try with_reducible rfl)
      try simp only [Act.put]
      refine wpAnyL_take (i := 6) (v := ?_) rfl rfl (by kernel_rfl) (by kernel_rfl) (by kernel_rfl) (by kernel_rfl) (by kernel_rfl) (fun _ _ _ h => h) HF (Or.inl ⟨by rfl, ?_⟩) ?_
      rotate_left 1
      · (rintro v ⟨a0, a1, a2⟩; go_simp; try with_reducible rfl)
      try simp only [Act.put]
      refine wpAnyL_take (i := 7) (v := ?_) rfl rfl (by kernel_rfl) (by kernel_rfl) (by kernel_rfl) (by kernel_rfl) (by kernel_rfl) (fun _ _ _ h => h) HF (Or.inl ⟨by rfl, ?_⟩) ?_
      rotate_left 1
      · (rintro v ⟨a0, a1, a2⟩; go_simp; try with_reducible rfl)
      try simp only [Act.put]
      refine wpAnyL_take (i := 8) (v := ?_) rfl rfl (by kernel_rfl) (by kernel_rfl) (by kernel_rfl) (by kernel_rfl) (by kernel_rfl) (fun _ _ _ h => h) HF (Or.inl ⟨by rfl, ?_⟩) ?_
      rotate_left 1
      · (rintro v ⟨a0, a1, a2⟩; go_simp; try with_reducible rfl)
      try simp only [Act.put]
      refine wpAnyL_take (i := 9) (v := ?_) rfl rfl (by kernel_rfl) (by kernel_rfl) (by kernel_rfl) (by kernel_rfl) (by kernel_rfl) (fun _ _ _ h => h) HF (Or.inl ⟨by rfl, ?_⟩) ?_
      rotate_left 1
      · (rintro v ⟨a0, a1, a2⟩; go_simp; try with_reducible rfl)
      try simp only [Act.put]
      refine wpAnyL_take (i := 10) (v := ?_) rfl rfl (by kernel_rfl) (by kernel_rfl) (by kernel_rfl) (by kernel_rfl) (by kernel_rfl) (fun _ _ _ h => h) HF (Or.inl ⟨by rfl, ?_⟩) ?_
      rotate_left 1
      · (rintro v ⟨a0, a1, a2⟩; go_simp; try with_reducible rfl)
      try simp only [Act.put]
      refine wpAnyL_step (i := 3) (by kernel_rfl) rfl rfl ?_
      intro K hK
      go_simp
      refine (sTimeAt_any x0 x1 A n cc B l i _ (HH.out.keep (c.mono hB)) (Nat.le_trans hB c.size) hs (by have := HX.out; omega) (by have := HI.out; rw [inB_iff] at this; omega)).mono ?_
      rintro e w4 ⟨rfl, b⟩
      replace c := c.trans (b.mono c.size)
      replace S := S.keep b
      clear b
      clear HF
      have HF : w4.cell? ⟨w.heap.size, 0, none⟩ = some (.int .i64 x0) ∧ w4.cell? ⟨w.heap.size, 1, none⟩ = some (.int .i64 x1) ∧ w4.cell? ⟨w.heap.size, 2, none⟩ = some (.slice A n cc) := ⟨(S.at_ 1 rfl).cell 0, (S.at_ 1 rfl).cell 1, (S.at_ 1 rfl).cell 2⟩
      refine hK _ _ (fun _ => HF) ?_
      clear hK K
      try simp only [Act.put]
      refine wpAnyL_step (i := 11) (by kernel_rfl) rfl rfl ?_
      intro K hK
      go_simp
      refine (sCopyEs_any _ (n - d) (cc - d) B (l.drop d) _ (HB.out _ _ (HH.out.keep (c.mono hB))) (Nat.le_trans hB c.size) (by unfold entSz; rw [List.length_drop]; unfold entSz at hs; omega)).mono ?_
      rintro e w5 ⟨A2, c2, rfl, o, b⟩
      obtain ⟨fp_u, S'⟩ := S.has b o c.size
      replace c := c.trans (b.mono c.size)
      clear S; have S := S'; clear S' o b
      clear HF
      have HF : w5.cell? ⟨w.heap.size, 0, none⟩ = some (.int .i64 x0) ∧ w5.cell? ⟨w.heap.size, 1, none⟩ = some (.int .i64 x1) ∧ w5.cell? ⟨w.heap.size, 2, none⟩ = some (.slice A n cc) := ⟨(S.at_ 2 rfl).cell 0, (S.at_ 2 rfl).cell 1, (S.at_ 2 rfl).cell 2⟩
      refine hK _ _ (fun _ => HF) ?_
      clear hK K
      try simp only [Act.put]
      refine wpAnyL_pure (i := 12) (v := ?_) rfl rfl (by kernel_rfl) (by kernel_rfl) (by kernel_rfl) (fun _ _ _ h => h) HF (Or.inl ⟨by rfl, ?_⟩) ?_
      rotate_left 1
      · (intro v _; go_simp; try with_reducible rfl)
      try simp only [Act.put]
      have f6 : w5.cell? ⟨w.heap.size + 1, 0, none⟩ = some (.int .i64 0) := (S.at_ 1 rfl).cell 0
      have f7 := (S.at_ 1 rfl).free 0
      have f8 : w5.cell? ⟨w.heap.size + 1, 1, none⟩ = some (.int .i64 0) := (S.at_ 1 rfl).cell 1
      have f9 := (S.at_ 1 rfl).free 1
      have f10 : w5.cell? ⟨w.heap.size + 1, 2, none⟩ = some (.slice none 0 0) := (S.at_ 1 rfl).cell 2
      have f11 := (S.at_ 1 rfl).free 2
      refine wpAnyL_step (i := 13) (by kernel_rfl) rfl rfl ?_
      intro K hK
      go_simp
      replace S := S.put 1 rfl 0 (.int .i64 i)
      replace c := c.setCell (p := ⟨w.heap.size + 1, 0, none⟩) (by show w.heap.size ≤ w.heap.size + 1; omega) (.int .i64 i)
      replace S := S.put 1 rfl 1 (.int .i64 (timeAt ⟨x0, x1, l⟩ i))
      replace c := c.setCell (p := ⟨w.heap.size + 1, 1, none⟩) (by show w.heap.size ≤ w.heap.size + 1; omega) (.int .i64 (timeAt ⟨x0, x1, l⟩ i))
      replace S := S.put 1 rfl 2 (.slice A2 (n - d) c2)
      replace c := c.setCell (p := ⟨w.heap.size + 1, 2, none⟩) (by show w.heap.size ≤ w.heap.size + 1; omega) (.slice A2 (n - d) c2)
      clear HF
      have HF : (((w5.setCell ⟨w.heap.size + 1, 0, none⟩ (.int .i64 i)).setCell ⟨w.heap.size + 1, 1, none⟩ (.int .i64 (timeAt ⟨x0, x1, l⟩ i))).setCell ⟨w.heap.size + 1, 2, none⟩ (.slice A2 (n - d) c2)).cell? ⟨w.heap.size, 0, none⟩ = some (.int .i64 x0) ∧ (((w5.setCell ⟨w.heap.size + 1, 0, none⟩ (.int .i64 i)).setCell ⟨w.heap.size + 1, 1, none⟩ (.int .i64 (timeAt ⟨x0, x1, l⟩ i))).setCell ⟨w.heap.size + 1, 2, none⟩ (.slice A2 (n - d) c2)).cell? ⟨w.heap.size, 1, none⟩ = some (.int .i64 x1) ∧ (((w5.setCell ⟨w.heap.size + 1, 0, none⟩ (.int .i64 i)).setCell ⟨w.heap.size + 1, 1, none⟩ (.int .i64 (timeAt ⟨x0, x1, l⟩ i))).setCell ⟨w.heap.size + 1, 2, none⟩ (.slice A2 (n - d) c2)).cell? ⟨w.heap.size, 2, none⟩ = some (.slice A n cc) := ⟨(S.at_ 2 rfl).cell 0, (S.at_ 2 rfl).cell 1, (S.at_ 2 rfl).cell 2⟩
      refine hK _ _ (fun _ => HF) ?_
      clear hK K
      try simp only [Act.put]
      generalize ((w5.setCell ⟨w.heap.size + 1, 0, none⟩ (.int .i64 i)).setCell ⟨w.heap.size + 1, 1, none⟩ (.int .i64 (timeAt ⟨x0, x1, l⟩ i))).setCell ⟨w.heap.size + 1, 2, none⟩ (.slice A2 (n - d) c2) = w6 at *
      clear f6 f7 f8 f9 f10 f11
      refine wpAnyL_step (i := 14) (by kernel_rfl) rfl rfl ?_
      intro K hK
      go_simp
      refine hK _ _ (fun h => nomatch (show true = false from h)) ?_
      clear hK K
      try simp only [Act.put]
      refine wpAnyL_done (by kernel_rfl) ?_ _
      clear HF
      replace S := S.pick 0 rfl
      have H := Lib.hid S.first
      have r0 := Lib.hid ((S.at_ 1 rfl).cell 0)
      have r1 := Lib.hid ((S.at_ 1 rfl).cell 1)
      have r2 := Lib.hid ((S.at_ 1 rfl).cell 2)
      have CC := Lib.hid c
      clear S c
      go_wp2
      all_goals exact bodyPost_ret (v := .tuple #[.agg #[.int .i64 i, .int .i64 (timeAt ⟨x0, x1, l⟩ i), .slice A2 (n - d) c2], .bool true]) (by simp [results, Try.results36, go_sem, r0.out, r1.out, r2.out]) rfl ⟨_, _, _, _, _, by rw [HV.out], by rw [HV.out, HY.out]; exact has_mk H.out, CC.out⟩

set_option maxHeartbeats 12800000 in
theorem sBack_any (x0 x1 : Int) (A : Option Addr) (n cc B : Nat) (l : List EntM) (i : Int) (w : World) (h : Rd w B [entD l] [.slice A n cc]) (hB : B ≤ w.heap.size) (hs : entSz l ≤ 1048577) :
    Calls Try.prog 38 #[.agg #[.int .i64 x0, .int .i64 x1, .slice A n cc], .int .i64 i] w (MadeB w (backM ⟨x0, x1, l⟩ i)) := by
  have HH := Lib.hid h
  obtain ⟨_, _, _, e, hl, hnc, hcm, hel⟩ := h.ents
  injection e with e1 e2 e3
  subst e1 e2 e3
  have hn : n ≤ 1048577 := by unfold entSz at hs; omega
  have HL := Lib.hid hl
  clear hel h
  have S := Sep.nil w w.heap.size
  have c := Below.refl w.heap.size w
  replace S := S.boxAt c.size (w.heap.size) rfl #[.int .i64 x0, .int .i64 x1, .slice A n cc] 29
  replace c := c.alloc c.size (.cells #[.int .i64 x0, .int .i64 x1, .slice A n cc] 29)
  replace S := S.boxAt c.size (w.heap.size + 1) (by simp) #[.int .i64 0, .int .i64 0, .slice none 0 0] 29
  replace c := c.alloc c.size (.cells #[.int .i64 0, .int .i64 0, .slice none 0 0] 29)
  go_enter Try.func38, Try.ntmps38
  have f0 : ((w.alloc (.cells #[.int .i64 x0, .int .i64 x1, .slice A n cc] 29)).alloc (.cells #[.int .i64 0, .int .i64 0, .slice none 0 0] 29)).cell? ⟨w.heap.size, 0, none⟩ = some (.int .i64 x0) := (S.at_ 1 rfl).cell 0
  have f1 : ((w.alloc (.cells #[.int .i64 x0, .int .i64 x1, .slice A n cc] 29)).alloc (.cells #[.int .i64 0, .int .i64 0, .slice none 0 0] 29)).cell? ⟨w.heap.size, 1, none⟩ = some (.int .i64 x1) := (S.at_ 1 rfl).cell 1
  have f2 : ((w.alloc (.cells #[.int .i64 x0, .int .i64 x1, .slice A n cc] 29)).alloc (.cells #[.int .i64 0, .int .i64 0, .slice none 0 0] 29)).cell? ⟨w.heap.size, 2, none⟩ = some (.slice A n cc) := (S.at_ 1 rfl).cell 2
  go_wp2_with fail
  generalize (w.alloc (.cells #[.int .i64 x0, .int .i64 x1, .slice A n cc] 29)).alloc (.cells #[.int .i64 0, .int .i64 0, .slice none 0 0] 29) = w1 at *
  refine (sBookOk_any x0 x1 A n cc B l _ (HH.out.keep (c.mono hB)) (Nat.le_trans hB c.size) hs).mono ?_
  rintro e w2 ⟨rfl, b2⟩
  replace c := c.trans (b2.mono c.size)
  replace S := S.keep b2
  clear b2 f0 f1 f2
  cases hok : bookB ⟨x0, x1, l⟩
  case false =>
    have HV := Lib.hid (show backM ⟨x0, x1, l⟩ i = (book0, false) by unfold backM; rw [hok]; rfl)
    have f3 : w2.cell? ⟨w.heap.size + 1, 0, none⟩ = some (.int .i64 0) := (S.at_ 0 rfl).cell 0
    have f4 := (S.at_ 0 rfl).free 0
    have f5 : w2.cell? ⟨w.heap.size + 1, 1, none⟩ = some (.int .i64 0) := (S.at_ 0 rfl).cell 1
    have f6 := (S.at_ 0 rfl).free 1
    have f7 : w2.cell? ⟨w.heap.size + 1, 2, none⟩ = some (.slice none 0 0) := (S.at_ 0 rfl).cell 2
    have f8 := (S.at_ 0 rfl).free 2
    replace S := S.put 0 rfl 0 (.int .i64 0)
    replace c := c.setCell (p := ⟨w.heap.size + 1, 0, none⟩) (by show w.heap.size ≤ w.heap.size + 1; omega) (.int .i64 0)
    replace S := S.put 0 rfl 1 (.int .i64 0)
    replace c := c.setCell (p := ⟨w.heap.size + 1, 1, none⟩) (by show w.heap.size ≤ w.heap.size + 1; omega) (.int .i64 0)
    replace S := S.put 0 rfl 2 (.slice none 0 0)
    replace c := c.setCell (p := ⟨w.heap.size + 1, 2, none⟩) (by show w.heap.size ≤ w.heap.size + 1; omega) (.slice none 0 0)
    clear hok
    have r0 := Lib.hid ((S.at_ 0 rfl).cell 0)
    have r1 := Lib.hid ((S.at_ 0 rfl).cell 1)
    have r2 := Lib.hid ((S.at_ 0 rfl).cell 2)
    have CC := Lib.hid c
    clear S c
    go_wp2
    exact bodyPost_ret (v := .tuple #[.agg #[.int .i64 0, .int .i64 0, .slice none 0 0], .bool false]) (by simp [results, Try.results38, go_sem, r0.out, r1.out, r2.out]) rfl ⟨_, _, _, _, _, by rw [HV.out], by rw [HV.out]; exact has_book0 _ _, CC.out⟩
  case true =>
    have HX := Lib.hid ((bookB_mk x0 x1 l).1 hok).1
    have hlast : lastB ⟨x0, x1, l⟩ = x0 + (n : Int) := by unfold lastB; rw [show (⟨x0, x1, l⟩ : BookM).ents.length = n from hl]
    have HM := Lib.hid (show ∀ q, inB i x0 (x0 + (n : Int)) = q → backM ⟨x0, x1, l⟩ i = if q = true then (⟨x0, x1, l.take (i - x0).toNat⟩, true) else (⟨x0, x1, l⟩, false) from fun q hq => by unfold backM inBook; rw [if_pos hok, hlast]; simp only [hq])
    clear hok hlast
    have f3 : w2.cell? ⟨w.heap.size, 0, none⟩ = some (.int .i64 x0) := (S.at_ 1 rfl).cell 0
    have f4 : w2.cell? ⟨w.heap.size, 1, none⟩ = some (.int .i64 x1) := (S.at_ 1 rfl).cell 1
    have f5 : w2.cell? ⟨w.heap.size, 2, none⟩ = some (.slice A n cc) := (S.at_ 1 rfl).cell 2
    go_wp2_with fail
    refine (sCopy_any x0 x1 A n cc B l _ (HH.out.keep (c.mono hB)) (Nat.le_trans hB c.size) hs).mono ?_
    rintro e w3 ⟨A2, c2, rfl, o, b2⟩
    obtain ⟨fp_u, S'⟩ := S.has b2 o c.size
    replace c := c.trans (b2.mono c.size)
    clear S; have S := S'; clear S' o b2 f3 f4 f5
    replace S := S.boxAt c.size (w3.heap.size) rfl #[.int .i64 x0, .int .i64 x1, .slice A2 n c2] 29
    replace c := c.alloc c.size (.cells #[.int .i64 x0, .int .i64 x1, .slice A2 n c2] 29)
    go_wp2_with fail
    generalize w3.alloc (.cells #[.int .i64 x0, .int .i64 x1, .slice A2 n c2] 29) = w4 at *
    obtain ⟨qo, hqo⟩ : ∃ q, q = w3.heap.size := ⟨_, rfl⟩
    rw [← hqo] at S ⊢
    clear hqo
    have hrd := HH.out.keep (c.mono hB)
    have hbs := Nat.le_trans hB c.size
    have f6 : w4.cell? ⟨w.heap.size, 0, none⟩ = some (.int .i64 x0) := (S.at_ 3 rfl).cell 0
    have f7 : w4.cell? ⟨w.heap.size, 1, none⟩ = some (.int .i64 x1) := (S.at_ 3 rfl).cell 1
    have f8 : w4.cell? ⟨w.heap.size, 2, none⟩ = some (.slice A n cc) := (S.at_ 3 rfl).cell 2
    cases hin : inB i x0 (x0 + (n : Int))
    case false =>
      have HI := Lib.hid hin
      refine wp_region_cls (fun v => v.cell? ⟨w.heap.size, 0, none⟩ = some (.int .i64 x0) ∧ v.cell? ⟨w.heap.size, 1, none⟩ = some (.int .i64 x1) ∧ v.cell? ⟨w.heap.size, 2, none⟩ = some (.slice A n cc)) (by kernel_rfl) (by kernel_rfl) (fun v hv => ⟨(hv.cell (p := ⟨w.heap.size, 0, none⟩) (lt_of_cell f6)).trans f6, (hv.cell (p := ⟨w.heap.size, 1, none⟩) (lt_of_cell f7)).trans f7, (hv.cell (p := ⟨w.heap.size, 2, none⟩) (lt_of_cell f8)).trans f8⟩) ?_
      intro CL HF HC
      repeat
        (first
           | go_big_quiet_skip
           | (go_big_quiet_want
              go_big_quiet_op
              first
                | go_big_quiet_on
                | (apply Exists.intro
                   refine ⟨fun v hv => ?_, ?_⟩
                   · obtain ⟨a0, a1, a2⟩ := HF v hv
                     first
                       | (go_at_call 52; exact Calls.cls HC hv (sLast_any x0 x1 A n cc v (by have := HX.out; omega) hn) rfl)
                       | (go_at_call 45; exact Calls.cls HC hv (in_at i x0 (x0 + (n : Int)) v) (congrArg Value.bool HI.out))
                       | exact rfl
                       | (go_simp; exact rfl)
                       | (go_simp; exact ⟨rfl, hv⟩)
                   go_big_quiet_on)))
      refine wpQuiet_nil ?_
      intro w9 b9
      replace c := c.trans (b9.mono c.size)
      replace S := S.keep b9
      clear b9 hrd hbs f6 f7 f8
      have HV := Lib.hid ((HM.out false hin).trans (if_neg (by decide)))
      clear hin
      replace S := S.pick 1 rfl
      have f9 : w9.cell? ⟨qo, 0, none⟩ = some (.int .i64 x0) := (S.at_ 1 rfl).cell 0
      have f10 : w9.cell? ⟨qo, 1, none⟩ = some (.int .i64 x1) := (S.at_ 1 rfl).cell 1
      have f11 : w9.cell? ⟨qo, 2, none⟩ = some (.slice A2 n c2) := (S.at_ 1 rfl).cell 2
      have f12 : w9.cell? ⟨w.heap.size + 1, 0, none⟩ = some (.int .i64 0) := (S.at_ 2 rfl).cell 0
      have f13 := (S.at_ 2 rfl).free 0
      have f14 : w9.cell? ⟨w.heap.size + 1, 1, none⟩ = some (.int .i64 0) := (S.at_ 2 rfl).cell 1
      have f15 := (S.at_ 2 rfl).free 1
      have f16 : w9.cell? ⟨w.heap.size + 1, 2, none⟩ = some (.slice none 0 0) := (S.at_ 2 rfl).cell 2
      have f17 := (S.at_ 2 rfl).free 2
      replace S := S.put 2 rfl 0 (.int .i64 x0)
      replace c := c.setCell (p := ⟨w.heap.size + 1, 0, none⟩) (by show w.heap.size ≤ w.heap.size + 1; omega) (.int .i64 x0)
      replace S := S.put 2 rfl 1 (.int .i64 x1)
      replace c := c.setCell (p := ⟨w.heap.size + 1, 1, none⟩) (by show w.heap.size ≤ w.heap.size + 1; omega) (.int .i64 x1)
      replace S := S.put 2 rfl 2 (.slice A2 n c2)
      replace c := c.setCell (p := ⟨w.heap.size + 1, 2, none⟩) (by show w.heap.size ≤ w.heap.size + 1; omega) (.slice A2 n c2)
      have H := Lib.hid S.first
      have r0 := Lib.hid ((S.at_ 2 rfl).cell 0)
      have r1 := Lib.hid ((S.at_ 2 rfl).cell 1)
      have r2 := Lib.hid ((S.at_ 2 rfl).cell 2)
      have CC := Lib.hid c
      clear S c
      go_wp2
      exact bodyPost_ret (v := .tuple #[.agg #[.int .i64 x0, .int .i64 x1, .slice A2 n c2], .bool false]) (by simp [results, Try.results38, go_sem, r0.out, r1.out, r2.out]) rfl ⟨_, _, _, _, _, by rw [HV.out], by rw [HV.out]; exact has_mk H.out, CC.out⟩
    case true =>
      have HI := Lib.hid hin
      refine wp_region_cls (fun v => v.cell? ⟨w.heap.size, 0, none⟩ = some (.int .i64 x0) ∧ v.cell? ⟨w.heap.size, 1, none⟩ = some (.int .i64 x1) ∧ v.cell? ⟨w.heap.size, 2, none⟩ = some (.slice A n cc)) (by kernel_rfl) (by kernel_rfl) (fun v hv => ⟨(hv.cell (p := ⟨w.heap.size, 0, none⟩) (lt_of_cell f6)).trans f6, (hv.cell (p := ⟨w.heap.size, 1, none⟩) (lt_of_cell f7)).trans f7, (hv.cell (p := ⟨w.heap.size, 2, none⟩) (lt_of_cell f8)).trans f8⟩) ?_
      intro CL HF HC
      repeat
        (first
           | go_big_quiet_skip
           | (go_big_quiet_want
              go_big_quiet_op
              first
                | go_big_quiet_on
                | (apply Exists.intro
                   refine ⟨fun v hv => ?_, ?_⟩
                   · obtain ⟨a0, a1, a2⟩ := HF v hv
                     first
                       | (go_at_call 52; exact Calls.cls HC hv (sLast_any x0 x1 A n cc v (by have := HX.out; omega) hn) rfl)
                       | (go_at_call 45; exact Calls.cls HC hv (in_at i x0 (x0 + (n : Int)) v) (congrArg Value.bool HI.out))
                       | exact rfl
                       | (go_simp; exact rfl)
                       | (go_simp; exact ⟨rfl, hv⟩)
                   go_big_quiet_on)))
      refine wpQuiet_nil ?_
      intro w9 b9
      replace c := c.trans (b9.mono c.size)
      replace S := S.keep b9
      clear b9 hrd hbs f6 f7 f8
      have HV := Lib.hid ((HM.out true hin).trans (if_pos rfl))
      have hi := (inB_iff _ _ _).1 hin
      obtain ⟨d, hd⟩ : ∃ d : Nat, i - x0 = (d : Int) := ⟨(i - x0).toNat, by omega⟩
      have hdn : d ≤ n := by omega
      have hw : IntKind.i64.wrap (i - x0) = (d : Int) := by have := HX.out; rw [IntKind.wrap_i64]; omega
      have d0 : (0 : Int) ≤ (d : Int) := by omega
      have d1 : (d : Int) ≤ (n : Int) := by omega
      have HD := Lib.hid (show (i - x0).toNat = d by omega)
      rw [HD.out] at HV
      clear hin
      replace S := S.pick 1 rfl
      have hsh := (S.own_ 0 rfl).shorter hdn
      have hncc : n ≤ c2 := by
        obtain ⟨_, _, _, e, _, h8, _⟩ := (S.own_ 0 rfl).rd.ents
        injection e with e1 e2 e3
        subst e1 e2 e3
        exact h8
      have dc : (d : Int) ≤ (c2 : Int) := by omega
      have hif : (if c2 = 0 then A2 else A2.map (·.add (0 * 9))) = A2 := by
        rcases own_addr (S.own_ 0 rfl) with ⟨e, _, _⟩ | ⟨q, e⟩
        · rw [e]; split <;> rfl
        · rw [e]; split <;> rfl
      clear hd hi
      have f9 : w9.cell? ⟨qo, 0, none⟩ = some (.int .i64 x0) := (S.at_ 1 rfl).cell 0
      have f10 : w9.cell? ⟨qo, 1, none⟩ = some (.int .i64 x1) := (S.at_ 1 rfl).cell 1
      have f11 : w9.cell? ⟨qo, 2, none⟩ = some (.slice A2 n c2) := (S.at_ 1 rfl).cell 2
      have f12 : w9.cell? ⟨w.heap.size, 0, none⟩ = some (.int .i64 x0) := (S.at_ 3 rfl).cell 0
      have f13 : w9.cell? ⟨w.heap.size, 1, none⟩ = some (.int .i64 x1) := (S.at_ 3 rfl).cell 1
      have f14 : w9.cell? ⟨w.heap.size, 2, none⟩ = some (.slice A n cc) := (S.at_ 3 rfl).cell 2
      have g1 := (S.at_ 1 rfl).free 2
      rcases own_addr (S.own_ 0 rfl) with ⟨rfl, rfl, rfl⟩ | ⟨q2, rfl⟩
      · obtain rfl : d = 0 := by omega
        go_upto_region 7 with fail
        replace S := S.head_own hsh
        clear hsh f9 f10 f11 f12 f13 f14 g1
        replace c := c.setCell (p := ⟨qo, 2, none⟩) (S.base_le 1 rfl) (.slice none 0 0)
        replace S := S.put 1 rfl 2 (.slice none 0 0)
        generalize w9.setCell ⟨qo, 2, none⟩ (.slice none 0 0) = w5 at *
        have f15 : w5.cell? ⟨qo, 0, none⟩ = some (.int .i64 x0) := (S.at_ 1 rfl).cell 0
        have f16 : w5.cell? ⟨qo, 1, none⟩ = some (.int .i64 x1) := (S.at_ 1 rfl).cell 1
        have f17 : w5.cell? ⟨qo, 2, none⟩ = some (.slice none 0 0) := (S.at_ 1 rfl).cell 2
        have f18 : w5.cell? ⟨w.heap.size + 1, 0, none⟩ = some (.int .i64 0) := (S.at_ 2 rfl).cell 0
        have f19 := (S.at_ 2 rfl).free 0
        have f20 : w5.cell? ⟨w.heap.size + 1, 1, none⟩ = some (.int .i64 0) := (S.at_ 2 rfl).cell 1
        have f21 := (S.at_ 2 rfl).free 1
        have f22 : w5.cell? ⟨w.heap.size + 1, 2, none⟩ = some (.slice none 0 0) := (S.at_ 2 rfl).cell 2
        have f23 := (S.at_ 2 rfl).free 2
        replace S := S.put 2 rfl 0 (.int .i64 x0)
        replace c := c.setCell (p := ⟨w.heap.size + 1, 0, none⟩) (by show w.heap.size ≤ w.heap.size + 1; omega) (.int .i64 x0)
        replace S := S.put 2 rfl 1 (.int .i64 x1)
        replace c := c.setCell (p := ⟨w.heap.size + 1, 1, none⟩) (by show w.heap.size ≤ w.heap.size + 1; omega) (.int .i64 x1)
        replace S := S.put 2 rfl 2 (.slice none 0 0)
        replace c := c.setCell (p := ⟨w.heap.size + 1, 2, none⟩) (by show w.heap.size ≤ w.heap.size + 1; omega) (.slice none 0 0)
        have H := Lib.hid S.first
        have r0 := Lib.hid ((S.at_ 2 rfl).cell 0)
        have r1 := Lib.hid ((S.at_ 2 rfl).cell 1)
        have r2 := Lib.hid ((S.at_ 2 rfl).cell 2)
        have CC := Lib.hid c
        clear S c
        go_wp2
        exact bodyPost_ret (v := .tuple #[.agg #[.int .i64 x0, .int .i64 x1, .slice none 0 0], .bool true]) (by simp [results, Try.results38, go_sem, r0.out, r1.out, r2.out]) rfl ⟨_, _, _, _, _, by rw [HV.out], by rw [HV.out]; exact has_mk H.out, CC.out⟩
      · by_cases hz : c2 = 0
        · subst hz
          go_upto_region 7 with fail
          replace S := S.head_own hsh
          clear hsh f9 f10 f11 f12 f13 f14 g1
          replace c := c.setCell (p := ⟨qo, 2, none⟩) (S.base_le 1 rfl) (.slice (some ⟨q2, 0, none⟩) d 0)
          replace S := S.put 1 rfl 2 (.slice (some ⟨q2, 0, none⟩) d 0)
          generalize w9.setCell ⟨qo, 2, none⟩ (.slice (some ⟨q2, 0, none⟩) d 0) = w5 at *
          have f15 : w5.cell? ⟨qo, 0, none⟩ = some (.int .i64 x0) := (S.at_ 1 rfl).cell 0
          have f16 : w5.cell? ⟨qo, 1, none⟩ = some (.int .i64 x1) := (S.at_ 1 rfl).cell 1
          have f17 : w5.cell? ⟨qo, 2, none⟩ = some (.slice (some ⟨q2, 0, none⟩) d 0) := (S.at_ 1 rfl).cell 2
          have f18 : w5.cell? ⟨w.heap.size + 1, 0, none⟩ = some (.int .i64 0) := (S.at_ 2 rfl).cell 0
          have f19 := (S.at_ 2 rfl).free 0
          have f20 : w5.cell? ⟨w.heap.size + 1, 1, none⟩ = some (.int .i64 0) := (S.at_ 2 rfl).cell 1
          have f21 := (S.at_ 2 rfl).free 1
          have f22 : w5.cell? ⟨w.heap.size + 1, 2, none⟩ = some (.slice none 0 0) := (S.at_ 2 rfl).cell 2
          have f23 := (S.at_ 2 rfl).free 2
          replace S := S.put 2 rfl 0 (.int .i64 x0)
          replace c := c.setCell (p := ⟨w.heap.size + 1, 0, none⟩) (by show w.heap.size ≤ w.heap.size + 1; omega) (.int .i64 x0)
          replace S := S.put 2 rfl 1 (.int .i64 x1)
          replace c := c.setCell (p := ⟨w.heap.size + 1, 1, none⟩) (by show w.heap.size ≤ w.heap.size + 1; omega) (.int .i64 x1)
          replace S := S.put 2 rfl 2 (.slice (some ⟨q2, 0, none⟩) d 0)
          replace c := c.setCell (p := ⟨w.heap.size + 1, 2, none⟩) (by show w.heap.size ≤ w.heap.size + 1; omega) (.slice (some ⟨q2, 0, none⟩) d 0)
          have H := Lib.hid S.first
          have r0 := Lib.hid ((S.at_ 2 rfl).cell 0)
          have r1 := Lib.hid ((S.at_ 2 rfl).cell 1)
          have r2 := Lib.hid ((S.at_ 2 rfl).cell 2)
          have CC := Lib.hid c
          clear S c
          go_wp2
          exact bodyPost_ret (v := .tuple #[.agg #[.int .i64 x0, .int .i64 x1, .slice (some ⟨q2, 0, none⟩) d 0], .bool true]) (by simp [results, Try.results38, go_sem, r0.out, r1.out, r2.out]) rfl ⟨_, _, _, _, _, by rw [HV.out], by rw [HV.out]; exact has_mk H.out, CC.out⟩
        · go_upto_region 7 with fail
          replace S := S.head_own hsh
          clear hsh f9 f10 f11 f12 f13 f14 g1
          replace c := c.setCell (p := ⟨qo, 2, none⟩) (S.base_le 1 rfl) (.slice (some ⟨q2, 0, none⟩) d c2)
          replace S := S.put 1 rfl 2 (.slice (some ⟨q2, 0, none⟩) d c2)
          generalize w9.setCell ⟨qo, 2, none⟩ (.slice (some ⟨q2, 0, none⟩) d c2) = w5 at *
          have f15 : w5.cell? ⟨qo, 0, none⟩ = some (.int .i64 x0) := (S.at_ 1 rfl).cell 0
          have f16 : w5.cell? ⟨qo, 1, none⟩ = some (.int .i64 x1) := (S.at_ 1 rfl).cell 1
          have f17 : w5.cell? ⟨qo, 2, none⟩ = some (.slice (some ⟨q2, 0, none⟩) d c2) := (S.at_ 1 rfl).cell 2
          have f18 : w5.cell? ⟨w.heap.size + 1, 0, none⟩ = some (.int .i64 0) := (S.at_ 2 rfl).cell 0
          have f19 := (S.at_ 2 rfl).free 0
          have f20 : w5.cell? ⟨w.heap.size + 1, 1, none⟩ = some (.int .i64 0) := (S.at_ 2 rfl).cell 1
          have f21 := (S.at_ 2 rfl).free 1
          have f22 : w5.cell? ⟨w.heap.size + 1, 2, none⟩ = some (.slice none 0 0) := (S.at_ 2 rfl).cell 2
          have f23 := (S.at_ 2 rfl).free 2
          replace S := S.put 2 rfl 0 (.int .i64 x0)
          replace c := c.setCell (p := ⟨w.heap.size + 1, 0, none⟩) (by show w.heap.size ≤ w.heap.size + 1; omega) (.int .i64 x0)
          replace S := S.put 2 rfl 1 (.int .i64 x1)
          replace c := c.setCell (p := ⟨w.heap.size + 1, 1, none⟩) (by show w.heap.size ≤ w.heap.size + 1; omega) (.int .i64 x1)
          replace S := S.put 2 rfl 2 (.slice (some ⟨q2, 0, none⟩) d c2)
          replace c := c.setCell (p := ⟨w.heap.size + 1, 2, none⟩) (by show w.heap.size ≤ w.heap.size + 1; omega) (.slice (some ⟨q2, 0, none⟩) d c2)
          have H := Lib.hid S.first
          have r0 := Lib.hid ((S.at_ 2 rfl).cell 0)
          have r1 := Lib.hid ((S.at_ 2 rfl).cell 1)
          have r2 := Lib.hid ((S.at_ 2 rfl).cell 2)
          have CC := Lib.hid c
          clear S c
          go_wp2
          exact bodyPost_ret (v := .tuple #[.agg #[.int .i64 x0, .int .i64 x1, .slice (some ⟨q2, 0, none⟩) d c2], .bool true]) (by simp [results, Try.results38, go_sem, r0.out, r1.out, r2.out]) rfl ⟨_, _, _, _, _, by rw [HV.out], by rw [HV.out]; exact has_mk H.out, CC.out⟩


end Go.Proofs.Ytnjfdnjakogpmaa
