/- Parts of my texts: BookS3. -/
import Derived.Test.YtmjifhjhialcbaaGreatK20
namespace Go.Proofs.YtmjifhjhialcbaaGreat
set_option maxRecDepth 100000
set_option linter.unusedVariables false
open Go.RowKit
set_option maxHeartbeats 12800000 in
theorem sApp_any (x0 x1 : Int) (A : Option Addr) (n cc B : Nat) (l : List EntM) (e0 e1 e2 e3 e4 e5 e6 e7 e8 : Int) (w : World) (h : Rd w B [entD l] [.slice A n cc]) (hB : B ≤ w.heap.size) (hs : entSz l ≤ 1048577) :
    Calls Tryz.prog 83 #[.agg #[.int .i64 x0, .int .i64 x1, .slice A n cc], .agg #[.int .i64 e0, .int .i64 e1, .int .i64 e2, .int .i64 e3, .int .i64 e4, .int .i64 e5, .int .i64 e6, .int .i64 e7, .int .i64 e8]] w (MadeB w (appM ⟨x0, x1, l⟩ ⟨e0, e1, e2, e3, e4, e5, e6, e7, e8⟩)) := by
 have HH := jd h
 obtain ⟨_, _, _, e, hl, _, hcm, hel⟩ := h.ents
 injection e with e1 e2 e3
 subst e1 e2 e3
 have hn : n ≤ 1048577 := by unfold entSz at hs; omega
 have HL := jd hl
 clear hel hcm h
 have S := Sep.nil w w.heap.size
 have c := Below.refl w.heap.size w
 replace S := S.boxAt c.size (w.heap.size) rfl #[.int .i64 x0, .int .i64 x1, .slice A n cc] 47
 replace c := al c S
 replace S := S.boxAt c.size (w.heap.size + 1) (by simp) #[.int .i64 e0, .int .i64 e1, .int .i64 e2, .int .i64 e3, .int .i64 e4, .int .i64 e5, .int .i64 e6, .int .i64 e7, .int .i64 e8] 87
 replace c := al c S
 replace S := S.boxAt c.size (w.heap.size + 1 + 1) (by simp) #[.int .i64 0, .int .i64 0, .slice none 0 0] 47
 replace c := al c S
 go_enter Tryz.func83, Tryz.ntmps83
 have f0 := lk S 2 0 rfl rfl
 have f1 := lk S 2 1 rfl rfl
 have f2 := lk S 2 2 rfl rfl
 go_wp2_with fail
 generalize ((w.alloc (.cells #[.int .i64 x0, .int .i64 x1, .slice A n cc] 47)).alloc (.cells #[.int .i64 e0, .int .i64 e1, .int .i64 e2, .int .i64 e3, .int .i64 e4, .int .i64 e5, .int .i64 e6, .int .i64 e7, .int .i64 e8] 87)).alloc (.cells #[.int .i64 0, .int .i64 0, .slice none 0 0] 47) = w1 at *
 refine (sBookOk_any x0 x1 A n cc B l _ (HH.out.keep (c.mono hB)) (Nat.le_trans hB c.size) hs).mono ?_
 rintro e w2 ⟨rfl, b2⟩
 replace c := c.trans (b2.mono c.size)
 replace S := S.keep b2
 clear b2 f0 f1 f2
 cases hok : bookB ⟨x0, x1, l⟩
 case false =>
  have HV := jd (show appM ⟨x0, x1, l⟩ ⟨e0, e1, e2, e3, e4, e5, e6, e7, e8⟩ = (book0, false) by unfold appM; rw [hok]; rfl)
  have f3 := lk S 0 0 rfl rfl
  have f4 := (S.at_ 0 rfl).free 0
  have f5 := lk S 0 1 rfl rfl
  have f6 := (S.at_ 0 rfl).free 1
  have f7 := lk S 0 2 rfl rfl
  have f8 := (S.at_ 0 rfl).free 2
  replace S := S.put 0 rfl 0 (.int .i64 0)
  replace c := st c S (by omega)
  replace S := S.put 0 rfl 1 (.int .i64 0)
  replace c := st c S (by omega)
  replace S := S.put 0 rfl 2 (.slice none 0 0)
  replace c := st c S (by omega)
  clear hok
  have r0 := jd ((S.at_ 0 rfl).cell 0)
  have r1 := jd ((S.at_ 0 rfl).cell 1)
  have r2 := jd ((S.at_ 0 rfl).cell 2)
  have CC := jd c
  clear S c
  go_wp2
  exact bodyPost_ret (v := .tuple #[.agg #[.int .i64 0, .int .i64 0, .slice none 0 0], .bool false]) (by simp [results, Tryz.results83, go_sem, r0.out, r1.out, r2.out]) rfl ⟨_, _, _, _, _, by rw [HV.out], by rw [HV.out]; exact has_book0 _ _, CC.out⟩
 case true =>
  have hbk := (bookB_mk x0 x1 l).1 hok
  have HX := jd hbk.1
  have hn20 : n ≤ 20 := by have := hbk.2.2.2.1; omega
  have hlast : lastB ⟨x0, x1, l⟩ = x0 + (n : Int) := by unfold lastB; rw [show (⟨x0, x1, l⟩ : BookM).ents.length = n from hl]
  obtain ⟨y, hy⟩ : ∃ y, y = timeAt ⟨x0, x1, l⟩ (x0 + (n : Int)) := ⟨_, rfl⟩
  have HN := jd (show nextB ⟨x0, x1, l⟩ ⟨e0, e1, e2, e3, e4, e5, e6, e7, e8⟩ = (entB ⟨e0, e1, e2, e3, e4, e5, e6, e7, e8⟩ && (decide (e0 = x0 + (n : Int) + 1) && (decide (y ≤ e1) && decide (n ≠ 20)))) by unfold nextB; rw [hlast, ← hy, show (⟨x0, x1, l⟩ : BookM).ents.length = n from hl])
  have HA := jd (show ∀ q, nextB ⟨x0, x1, l⟩ ⟨e0, e1, e2, e3, e4, e5, e6, e7, e8⟩ = q → appM ⟨x0, x1, l⟩ ⟨e0, e1, e2, e3, e4, e5, e6, e7, e8⟩ = if q = true then (more ⟨x0, x1, l⟩ [⟨e0, e1, e2, e3, e4, e5, e6, e7, e8⟩], true) else (⟨x0, x1, l⟩, false) from fun q hq => by unfold appM; rw [if_pos hok, hq])
  have HY := jd hy
  have ew : IntKind.i64.wrap (x0 + (n : Int) + 1) = x0 + (n : Int) + 1 := by have := HX.out; rw [IntKind.wrap_i64]; omega
  clear hok hbk hlast hy
  have f3 := lk S 2 0 rfl rfl
  have f4 := lk S 2 1 rfl rfl
  have f5 := lk S 2 2 rfl rfl
  go_wp2_with fail
  refine (sCopyBk_any x0 x1 A n cc B l _ (HH.out.keep (c.mono hB)) (Nat.le_trans hB c.size) hs).mono ?_
  rintro e w3 ⟨A2, c2, rfl, o, b2⟩
  obtain ⟨fp_u, S'⟩ := S.has b2 o c.size
  replace c := c.trans (b2.mono c.size)
  clear S; have S := S'; clear S' o b2 f3 f4 f5
  replace S := S.boxAt c.size (w3.heap.size) rfl #[.int .i64 x0, .int .i64 x1, .slice A2 n c2] 47
  replace c := al c S
  have f6 := lk S 4 0 rfl rfl
  have f7 := lk S 4 1 rfl rfl
  have f8 := lk S 4 2 rfl rfl
  have f9 := lk S 3 0 rfl rfl
  have f10 := lk S 3 1 rfl rfl
  have f11 := lk S 3 2 rfl rfl
  have f12 := lk S 3 3 rfl rfl
  have f13 := lk S 3 4 rfl rfl
  have f14 := lk S 3 5 rfl rfl
  have f15 := lk S 3 6 rfl rfl
  have f16 := lk S 3 7 rfl rfl
  have f17 := lk S 3 8 rfl rfl
  go_wp2_with fail
  generalize w3.alloc (.cells #[.int .i64 x0, .int .i64 x1, .slice A2 n c2] 47) = w4 at *
  obtain ⟨qo, hqo⟩ : ∃ q, q = w3.heap.size := ⟨_, rfl⟩
  rw [← hqo] at S ⊢
  clear hqo
  have hrd := HH.out.keep (c.mono hB)
  have hbs := Nat.le_trans hB c.size
  cases p1 : entB ⟨e0, e1, e2, e3, e4, e5, e6, e7, e8⟩
  case false =>
   have HV := jd ((HA.out false (by rw [HN.out, p1, Bool.false_and])).trans (if_neg (by decide)))
   refine wp_region_cls (fun v => v.cell? ⟨w.heap.size, 0, none⟩ = some (.int .i64 x0) ∧ v.cell? ⟨w.heap.size, 1, none⟩ = some (.int .i64 x1) ∧ v.cell? ⟨w.heap.size, 2, none⟩ = some (.slice A n cc) ∧ v.cell? ⟨w.heap.size + 1, 0, none⟩ = some (.int .i64 e0) ∧ v.cell? ⟨w.heap.size + 1, 1, none⟩ = some (.int .i64 e1) ∧ v.cell? ⟨w.heap.size + 1, 2, none⟩ = some (.int .i64 e2) ∧ v.cell? ⟨w.heap.size + 1, 3, none⟩ = some (.int .i64 e3) ∧ v.cell? ⟨w.heap.size + 1, 4, none⟩ = some (.int .i64 e4) ∧ v.cell? ⟨w.heap.size + 1, 5, none⟩ = some (.int .i64 e5) ∧ v.cell? ⟨w.heap.size + 1, 6, none⟩ = some (.int .i64 e6) ∧ v.cell? ⟨w.heap.size + 1, 7, none⟩ = some (.int .i64 e7) ∧ v.cell? ⟨w.heap.size + 1, 8, none⟩ = some (.int .i64 e8) ∧ Rd v B [entD l] [.slice A n cc] ∧ B ≤ v.heap.size) (by kernel_rfl) (by kernel_rfl) (fun v hv => ⟨cq hv f6, cq hv f7, cq hv f8, cq hv f9, cq hv f10, cq hv f11, cq hv f12, cq hv f13, cq hv f14, cq hv f15, cq hv f16, cq hv f17, hrd.keep (hv.mono hbs), Nat.le_trans hbs hv.size⟩) ?_
   intro CL HF HC
   repeat
    (first
       | go_big_quiet_skip
       | (go_big_quiet_want
          go_big_quiet_op
          first
           | go_big_quiet_on
           | (apply Exists.intro
              refine ⟨fun v hv => ?_, ?_⟩
              · obtain ⟨a0, a1, a2, a3, a4, a5, a6, a7, a8, a9, a10, a11, a12, a13⟩ := HF v hv
                first
                 | (go_at_call 141; exact Calls.cls HC hv (sEntryOk_any e0 e1 e2 e3 e4 e5 e6 e7 e8 v) (congrArg Value.bool p1))
                 | (go_at_call 137; exact Calls.cls HC hv (sLast_any x0 x1 A n cc v (by have := HX.out; omega) hn) rfl)
                 | (go_at_call 142; exact Calls.cls HC hv (sTimeAt_any x0 x1 A n cc B l (x0 + (n : Int)) v a12 a13 hs (by have := HX.out; omega) (by omega)) (congrArg (Value.int .i64) HY.out.symm))
                 | exact rfl
                 | (go_simp; exact rfl)
                 | (go_simp; exact ⟨rfl, hv⟩)
              go_big_quiet_on)))
   refine wpQuiet_nil ?_
   intro w9 b9
   replace c := c.trans (b9.mono c.size)
   replace S := S.keep b9
   clear b9 hrd hbs f6 f7 f8 f9 f10 f11 f12 f13 f14 f15 f16 f17
   replace S := S.pick 1 rfl
   have H := jd S.first
   have f18 := lk S 1 0 rfl rfl
   have f19 := lk S 1 1 rfl rfl
   have f20 := lk S 1 2 rfl rfl
   have f21 := lk S 2 0 rfl rfl
   have f22 := (S.at_ 2 rfl).free 0
   have f23 := lk S 2 1 rfl rfl
   have f24 := (S.at_ 2 rfl).free 1
   have f25 := lk S 2 2 rfl rfl
   have f26 := (S.at_ 2 rfl).free 2
   replace S := S.put 2 rfl 0 (.int .i64 x0)
   replace c := st c S (by omega)
   replace S := S.put 2 rfl 1 (.int .i64 x1)
   replace c := st c S (by omega)
   replace S := S.put 2 rfl 2 (.slice A2 n c2)
   replace c := st c S (by omega)
   have H := jd S.first
   have r0 := jd ((S.at_ 2 rfl).cell 0)
   have r1 := jd ((S.at_ 2 rfl).cell 1)
   have r2 := jd ((S.at_ 2 rfl).cell 2)
   have CC := jd c
   clear S c
   go_wp2
   exact bodyPost_ret (v := .tuple #[.agg #[.int .i64 x0, .int .i64 x1, .slice A2 n c2], .bool false]) (by simp [results, Tryz.results83, go_sem, r0.out, r1.out, r2.out]) rfl ⟨_, _, _, _, _, by rw [HV.out], by rw [HV.out]; exact has_mk H.out, CC.out⟩
  case true =>
   by_cases q2 : e0 = x0 + (n : Int) + 1
   case neg =>
    have d1 : (e0 != x0 + (n : Int) + 1) = true := by simpa using q2
    have d2 : (e0 == x0 + (n : Int) + 1) = false := by simpa using q2
    have HV := jd ((HA.out false (by rw [HN.out, p1, decide_eq_false q2, Bool.true_and, Bool.false_and])).trans (if_neg (by decide)))
    clear q2
    refine wp_region_cls (fun v => v.cell? ⟨w.heap.size, 0, none⟩ = some (.int .i64 x0) ∧ v.cell? ⟨w.heap.size, 1, none⟩ = some (.int .i64 x1) ∧ v.cell? ⟨w.heap.size, 2, none⟩ = some (.slice A n cc) ∧ v.cell? ⟨w.heap.size + 1, 0, none⟩ = some (.int .i64 e0) ∧ v.cell? ⟨w.heap.size + 1, 1, none⟩ = some (.int .i64 e1) ∧ v.cell? ⟨w.heap.size + 1, 2, none⟩ = some (.int .i64 e2) ∧ v.cell? ⟨w.heap.size + 1, 3, none⟩ = some (.int .i64 e3) ∧ v.cell? ⟨w.heap.size + 1, 4, none⟩ = some (.int .i64 e4) ∧ v.cell? ⟨w.heap.size + 1, 5, none⟩ = some (.int .i64 e5) ∧ v.cell? ⟨w.heap.size + 1, 6, none⟩ = some (.int .i64 e6) ∧ v.cell? ⟨w.heap.size + 1, 7, none⟩ = some (.int .i64 e7) ∧ v.cell? ⟨w.heap.size + 1, 8, none⟩ = some (.int .i64 e8) ∧ Rd v B [entD l] [.slice A n cc] ∧ B ≤ v.heap.size) (by kernel_rfl) (by kernel_rfl) (fun v hv => ⟨cq hv f6, cq hv f7, cq hv f8, cq hv f9, cq hv f10, cq hv f11, cq hv f12, cq hv f13, cq hv f14, cq hv f15, cq hv f16, cq hv f17, hrd.keep (hv.mono hbs), Nat.le_trans hbs hv.size⟩) ?_
    intro CL HF HC
    repeat
     (first
        | go_big_quiet_skip
        | (go_big_quiet_want
           go_big_quiet_op
           first
            | go_big_quiet_on
            | (apply Exists.intro
               refine ⟨fun v hv => ?_, ?_⟩
               · obtain ⟨a0, a1, a2, a3, a4, a5, a6, a7, a8, a9, a10, a11, a12, a13⟩ := HF v hv
                 first
                  | (go_at_call 141; exact Calls.cls HC hv (sEntryOk_any e0 e1 e2 e3 e4 e5 e6 e7 e8 v) (congrArg Value.bool p1))
                  | (go_at_call 137; exact Calls.cls HC hv (sLast_any x0 x1 A n cc v (by have := HX.out; omega) hn) rfl)
                  | (go_at_call 142; exact Calls.cls HC hv (sTimeAt_any x0 x1 A n cc B l (x0 + (n : Int)) v a12 a13 hs (by have := HX.out; omega) (by omega)) (congrArg (Value.int .i64) HY.out.symm))
                  | exact rfl
                  | (go_simp; exact rfl)
                  | (go_simp; exact ⟨rfl, hv⟩)
               go_big_quiet_on)))
    refine wpQuiet_nil ?_
    intro w9 b9
    replace c := c.trans (b9.mono c.size)
    replace S := S.keep b9
    clear b9 hrd hbs f6 f7 f8 f9 f10 f11 f12 f13 f14 f15 f16 f17
    replace S := S.pick 1 rfl
    have H := jd S.first
    have f18 := lk S 1 0 rfl rfl
    have f19 := lk S 1 1 rfl rfl
    have f20 := lk S 1 2 rfl rfl
    have f21 := lk S 2 0 rfl rfl
    have f22 := (S.at_ 2 rfl).free 0
    have f23 := lk S 2 1 rfl rfl
    have f24 := (S.at_ 2 rfl).free 1
    have f25 := lk S 2 2 rfl rfl
    have f26 := (S.at_ 2 rfl).free 2
    replace S := S.put 2 rfl 0 (.int .i64 x0)
    replace c := st c S (by omega)
    replace S := S.put 2 rfl 1 (.int .i64 x1)
    replace c := st c S (by omega)
    replace S := S.put 2 rfl 2 (.slice A2 n c2)
    replace c := st c S (by omega)
    have H := jd S.first
    have r0 := jd ((S.at_ 2 rfl).cell 0)
    have r1 := jd ((S.at_ 2 rfl).cell 1)
    have r2 := jd ((S.at_ 2 rfl).cell 2)
    have CC := jd c
    clear S c
    go_wp2
    exact bodyPost_ret (v := .tuple #[.agg #[.int .i64 x0, .int .i64 x1, .slice A2 n c2], .bool false]) (by simp [results, Tryz.results83, go_sem, r0.out, r1.out, r2.out]) rfl ⟨_, _, _, _, _, by rw [HV.out], by rw [HV.out]; exact has_mk H.out, CC.out⟩
   have d1 : (e0 != x0 + (n : Int) + 1) = false := by simpa using q2
   have d2 : (e0 == x0 + (n : Int) + 1) = true := by simpa using q2
   by_cases q3 : y ≤ e1
   case neg =>
    have d3 : decide (e1 < y) = true := decide_eq_true (by omega)
    have HV := jd ((HA.out false (by rw [HN.out, p1, decide_eq_true q2, decide_eq_false q3, Bool.true_and, Bool.true_and, Bool.false_and])).trans (if_neg (by decide)))
    clear q2 q3
    refine wp_region_cls (fun v => v.cell? ⟨w.heap.size, 0, none⟩ = some (.int .i64 x0) ∧ v.cell? ⟨w.heap.size, 1, none⟩ = some (.int .i64 x1) ∧ v.cell? ⟨w.heap.size, 2, none⟩ = some (.slice A n cc) ∧ v.cell? ⟨w.heap.size + 1, 0, none⟩ = some (.int .i64 e0) ∧ v.cell? ⟨w.heap.size + 1, 1, none⟩ = some (.int .i64 e1) ∧ v.cell? ⟨w.heap.size + 1, 2, none⟩ = some (.int .i64 e2) ∧ v.cell? ⟨w.heap.size + 1, 3, none⟩ = some (.int .i64 e3) ∧ v.cell? ⟨w.heap.size + 1, 4, none⟩ = some (.int .i64 e4) ∧ v.cell? ⟨w.heap.size + 1, 5, none⟩ = some (.int .i64 e5) ∧ v.cell? ⟨w.heap.size + 1, 6, none⟩ = some (.int .i64 e6) ∧ v.cell? ⟨w.heap.size + 1, 7, none⟩ = some (.int .i64 e7) ∧ v.cell? ⟨w.heap.size + 1, 8, none⟩ = some (.int .i64 e8) ∧ Rd v B [entD l] [.slice A n cc] ∧ B ≤ v.heap.size) (by kernel_rfl) (by kernel_rfl) (fun v hv => ⟨cq hv f6, cq hv f7, cq hv f8, cq hv f9, cq hv f10, cq hv f11, cq hv f12, cq hv f13, cq hv f14, cq hv f15, cq hv f16, cq hv f17, hrd.keep (hv.mono hbs), Nat.le_trans hbs hv.size⟩) ?_
    intro CL HF HC
    repeat
     (first
        | go_big_quiet_skip
        | (go_big_quiet_want
           go_big_quiet_op
           first
            | go_big_quiet_on
            | (apply Exists.intro
               refine ⟨fun v hv => ?_, ?_⟩
               · obtain ⟨a0, a1, a2, a3, a4, a5, a6, a7, a8, a9, a10, a11, a12, a13⟩ := HF v hv
                 first
                  | (go_at_call 141; exact Calls.cls HC hv (sEntryOk_any e0 e1 e2 e3 e4 e5 e6 e7 e8 v) (congrArg Value.bool p1))
                  | (go_at_call 137; exact Calls.cls HC hv (sLast_any x0 x1 A n cc v (by have := HX.out; omega) hn) rfl)
                  | (go_at_call 142; exact Calls.cls HC hv (sTimeAt_any x0 x1 A n cc B l (x0 + (n : Int)) v a12 a13 hs (by have := HX.out; omega) (by omega)) (congrArg (Value.int .i64) HY.out.symm))
                  | exact rfl
                  | (go_simp; exact rfl)
                  | (go_simp; exact ⟨rfl, hv⟩)
               go_big_quiet_on)))
    refine wpQuiet_nil ?_
    intro w9 b9
    replace c := c.trans (b9.mono c.size)
    replace S := S.keep b9
    clear b9 hrd hbs f6 f7 f8 f9 f10 f11 f12 f13 f14 f15 f16 f17
    replace S := S.pick 1 rfl
    have H := jd S.first
    have f18 := lk S 1 0 rfl rfl
    have f19 := lk S 1 1 rfl rfl
    have f20 := lk S 1 2 rfl rfl
    have f21 := lk S 2 0 rfl rfl
    have f22 := (S.at_ 2 rfl).free 0
    have f23 := lk S 2 1 rfl rfl
    have f24 := (S.at_ 2 rfl).free 1
    have f25 := lk S 2 2 rfl rfl
    have f26 := (S.at_ 2 rfl).free 2
    replace S := S.put 2 rfl 0 (.int .i64 x0)
    replace c := st c S (by omega)
    replace S := S.put 2 rfl 1 (.int .i64 x1)
    replace c := st c S (by omega)
    replace S := S.put 2 rfl 2 (.slice A2 n c2)
    replace c := st c S (by omega)
    have H := jd S.first
    have r0 := jd ((S.at_ 2 rfl).cell 0)
    have r1 := jd ((S.at_ 2 rfl).cell 1)
    have r2 := jd ((S.at_ 2 rfl).cell 2)
    have CC := jd c
    clear S c
    go_wp2
    exact bodyPost_ret (v := .tuple #[.agg #[.int .i64 x0, .int .i64 x1, .slice A2 n c2], .bool false]) (by simp [results, Tryz.results83, go_sem, r0.out, r1.out, r2.out]) rfl ⟨_, _, _, _, _, by rw [HV.out], by rw [HV.out]; exact has_mk H.out, CC.out⟩
   have d3 : decide (e1 < y) = false := decide_eq_false (by omega)
   by_cases q4 : n = 20
   case pos =>
    have d4 : ((n : Int) == 20) = true := by simp; omega
    have d5 : decide ((n : Int) = 20) = true := decide_eq_true (by omega)
    have d6 : decide (n = 20) = true := decide_eq_true q4
    have HV := jd ((HA.out false (by rw [HN.out, p1, decide_eq_true q2, decide_eq_true q3, decide_eq_false (show ¬ n ≠ 20 by omega)]; rfl)).trans (if_neg (by decide)))
    clear q2 q3 q4
    refine wp_region_cls (fun v => v.cell? ⟨w.heap.size, 0, none⟩ = some (.int .i64 x0) ∧ v.cell? ⟨w.heap.size, 1, none⟩ = some (.int .i64 x1) ∧ v.cell? ⟨w.heap.size, 2, none⟩ = some (.slice A n cc) ∧ v.cell? ⟨w.heap.size + 1, 0, none⟩ = some (.int .i64 e0) ∧ v.cell? ⟨w.heap.size + 1, 1, none⟩ = some (.int .i64 e1) ∧ v.cell? ⟨w.heap.size + 1, 2, none⟩ = some (.int .i64 e2) ∧ v.cell? ⟨w.heap.size + 1, 3, none⟩ = some (.int .i64 e3) ∧ v.cell? ⟨w.heap.size + 1, 4, none⟩ = some (.int .i64 e4) ∧ v.cell? ⟨w.heap.size + 1, 5, none⟩ = some (.int .i64 e5) ∧ v.cell? ⟨w.heap.size + 1, 6, none⟩ = some (.int .i64 e6) ∧ v.cell? ⟨w.heap.size + 1, 7, none⟩ = some (.int .i64 e7) ∧ v.cell? ⟨w.heap.size + 1, 8, none⟩ = some (.int .i64 e8) ∧ Rd v B [entD l] [.slice A n cc] ∧ B ≤ v.heap.size) (by kernel_rfl) (by kernel_rfl) (fun v hv => ⟨cq hv f6, cq hv f7, cq hv f8, cq hv f9, cq hv f10, cq hv f11, cq hv f12, cq hv f13, cq hv f14, cq hv f15, cq hv f16, cq hv f17, hrd.keep (hv.mono hbs), Nat.le_trans hbs hv.size⟩) ?_
    intro CL HF HC
    repeat
     (first
        | go_big_quiet_skip
        | (go_big_quiet_want
           go_big_quiet_op
           first
            | go_big_quiet_on
            | (apply Exists.intro
               refine ⟨fun v hv => ?_, ?_⟩
               · obtain ⟨a0, a1, a2, a3, a4, a5, a6, a7, a8, a9, a10, a11, a12, a13⟩ := HF v hv
                 first
                  | (go_at_call 141; exact Calls.cls HC hv (sEntryOk_any e0 e1 e2 e3 e4 e5 e6 e7 e8 v) (congrArg Value.bool p1))
                  | (go_at_call 137; exact Calls.cls HC hv (sLast_any x0 x1 A n cc v (by have := HX.out; omega) hn) rfl)
                  | (go_at_call 142; exact Calls.cls HC hv (sTimeAt_any x0 x1 A n cc B l (x0 + (n : Int)) v a12 a13 hs (by have := HX.out; omega) (by omega)) (congrArg (Value.int .i64) HY.out.symm))
                  | exact rfl
                  | (go_simp; exact rfl)
                  | (go_simp; exact ⟨rfl, hv⟩)
               go_big_quiet_on)))
    refine wpQuiet_nil ?_
    intro w9 b9
    replace c := c.trans (b9.mono c.size)
    replace S := S.keep b9
    clear b9 hrd hbs f6 f7 f8 f9 f10 f11 f12 f13 f14 f15 f16 f17
    replace S := S.pick 1 rfl
    have H := jd S.first
    have f18 := lk S 1 0 rfl rfl
    have f19 := lk S 1 1 rfl rfl
    have f20 := lk S 1 2 rfl rfl
    have f21 := lk S 2 0 rfl rfl
    have f22 := (S.at_ 2 rfl).free 0
    have f23 := lk S 2 1 rfl rfl
    have f24 := (S.at_ 2 rfl).free 1
    have f25 := lk S 2 2 rfl rfl
    have f26 := (S.at_ 2 rfl).free 2
    replace S := S.put 2 rfl 0 (.int .i64 x0)
    replace c := st c S (by omega)
    replace S := S.put 2 rfl 1 (.int .i64 x1)
    replace c := st c S (by omega)
    replace S := S.put 2 rfl 2 (.slice A2 n c2)
    replace c := st c S (by omega)
    have H := jd S.first
    have r0 := jd ((S.at_ 2 rfl).cell 0)
    have r1 := jd ((S.at_ 2 rfl).cell 1)
    have r2 := jd ((S.at_ 2 rfl).cell 2)
    have CC := jd c
    clear S c
    go_wp2
    exact bodyPost_ret (v := .tuple #[.agg #[.int .i64 x0, .int .i64 x1, .slice A2 n c2], .bool false]) (by simp [results, Tryz.results83, go_sem, r0.out, r1.out, r2.out]) rfl ⟨_, _, _, _, _, by rw [HV.out], by rw [HV.out]; exact has_mk H.out, CC.out⟩
   have d4 : ((n : Int) == 20) = false := by simp; omega
   have d5 : decide ((n : Int) = 20) = false := decide_eq_false (by omega)
   have d6 : decide (n = 20) = false := decide_eq_false q4
   have HV := jd ((HA.out true (by rw [HN.out, p1, decide_eq_true q2, decide_eq_true q3, decide_eq_true (show n ≠ 20 by omega)]; rfl)).trans (if_pos rfl))
   clear q2 q3 q4
   refine wp_region_cls (fun v => v.cell? ⟨w.heap.size, 0, none⟩ = some (.int .i64 x0) ∧ v.cell? ⟨w.heap.size, 1, none⟩ = some (.int .i64 x1) ∧ v.cell? ⟨w.heap.size, 2, none⟩ = some (.slice A n cc) ∧ v.cell? ⟨w.heap.size + 1, 0, none⟩ = some (.int .i64 e0) ∧ v.cell? ⟨w.heap.size + 1, 1, none⟩ = some (.int .i64 e1) ∧ v.cell? ⟨w.heap.size + 1, 2, none⟩ = some (.int .i64 e2) ∧ v.cell? ⟨w.heap.size + 1, 3, none⟩ = some (.int .i64 e3) ∧ v.cell? ⟨w.heap.size + 1, 4, none⟩ = some (.int .i64 e4) ∧ v.cell? ⟨w.heap.size + 1, 5, none⟩ = some (.int .i64 e5) ∧ v.cell? ⟨w.heap.size + 1, 6, none⟩ = some (.int .i64 e6) ∧ v.cell? ⟨w.heap.size + 1, 7, none⟩ = some (.int .i64 e7) ∧ v.cell? ⟨w.heap.size + 1, 8, none⟩ = some (.int .i64 e8) ∧ Rd v B [entD l] [.slice A n cc] ∧ B ≤ v.heap.size) (by kernel_rfl) (by kernel_rfl) (fun v hv => ⟨cq hv f6, cq hv f7, cq hv f8, cq hv f9, cq hv f10, cq hv f11, cq hv f12, cq hv f13, cq hv f14, cq hv f15, cq hv f16, cq hv f17, hrd.keep (hv.mono hbs), Nat.le_trans hbs hv.size⟩) ?_
   intro CL HF HC
   repeat
    (first
       | go_big_quiet_skip
       | (go_big_quiet_want
          go_big_quiet_op
          first
           | go_big_quiet_on
           | (apply Exists.intro
              refine ⟨fun v hv => ?_, ?_⟩
              · obtain ⟨a0, a1, a2, a3, a4, a5, a6, a7, a8, a9, a10, a11, a12, a13⟩ := HF v hv
                first
                 | (go_at_call 141; exact Calls.cls HC hv (sEntryOk_any e0 e1 e2 e3 e4 e5 e6 e7 e8 v) (congrArg Value.bool p1))
                 | (go_at_call 137; exact Calls.cls HC hv (sLast_any x0 x1 A n cc v (by have := HX.out; omega) hn) rfl)
                 | (go_at_call 142; exact Calls.cls HC hv (sTimeAt_any x0 x1 A n cc B l (x0 + (n : Int)) v a12 a13 hs (by have := HX.out; omega) (by omega)) (congrArg (Value.int .i64) HY.out.symm))
                 | exact rfl
                 | (go_simp; exact rfl)
                 | (go_simp; exact ⟨rfl, hv⟩)
              go_big_quiet_on)))
   refine wpQuiet_nil ?_
   intro w9 b9
   replace c := c.trans (b9.mono c.size)
   replace S := S.keep b9
   clear b9 hrd hbs f6 f7 f8 f9 f10 f11 f12 f13 f14 f15 f16 f17
   replace S := S.pick 1 rfl
   have f18 := lk S 1 0 rfl rfl
   have f19 := lk S 1 1 rfl rfl
   have f20 := lk S 1 2 rfl rfl
   have f21 := lk S 3 0 rfl rfl
   have f22 := lk S 3 1 rfl rfl
   have f23 := lk S 3 2 rfl rfl
   have f24 := lk S 3 3 rfl rfl
   have f25 := lk S 3 4 rfl rfl
   have f26 := lk S 3 5 rfl rfl
   have f27 := lk S 3 6 rfl rfl
   have f28 := lk S 3 7 rfl rfl
   have f29 := lk S 3 8 rfl rfl
   replace S := S.boxAt c.size (w9.heap.size) rfl #[.int .i64 e0, .int .i64 e1, .int .i64 e2, .int .i64 e3, .int .i64 e4, .int .i64 e5, .int .i64 e6, .int .i64 e7, .int .i64 e8] 87
   replace c := al c S
   have HC : ∀ i, i < 9 → (w9.alloc (.cells #[.int .i64 e0, .int .i64 e1, .int .i64 e2, .int .i64 e3, .int .i64 e4, .int .i64 e5, .int .i64 e6, .int .i64 e7, .int .i64 e8] 87)).cell? ⟨w9.heap.size, i, none⟩ = [Value.int .i64 e0, Value.int .i64 e1, Value.int .i64 e2, Value.int .i64 e3, Value.int .i64 e4, Value.int .i64 e5, Value.int .i64 e6, Value.int .i64 e7, Value.int .i64 e8][i]? := fun i hi => by
    have h1 := (S.at_ 0 rfl).cell i
    rw [h1]
    simp
   replace S := (S.tail).own0 (ds := entC (⟨e0, e1, e2, e3, e4, e5, e6, e7, e8⟩ : EntM)) (vs := [.int .i64 e0, .int .i64 e1, .int .i64 e2, .int .i64 e3, .int .i64 e4, .int .i64 e5, .int .i64 e6, .int .i64 e7, .int .i64 e8]) (.int (.int (.int (.int (.int (.int (.int (.int (.int (.nil))))))))))
   replace S := S.swap
   go_upto_region 7 with (first
    | (at_builtin
       refine wpList_append_elem (l := l) (y := (⟨e0, e1, e2, e3, e4, e5, e6, e7, e8⟩ : EntM)) rfl (.tmp 41) (.tmp 43) (by rfl) Tryz.underlying27 infoEntry (by rfl) (by decide) entC_len (by rfl) (S.own_ 0 rfl) (S.nodup_own 0 rfl) (by rfl) HC (S.own_ 1 rfl) (S.nodup_own 1 rfl) S.apart (by omega) (by omega) ?_
       intro A3 c3 w3 fp3 o3 n3 s3 t3
       have S3 := S.merge t3 o3 n3 s3 c.size
       have g0 := (S3.at_ 1 rfl).cell 2
       have g1 := (S3.at_ 1 rfl).free 2))
   replace c := c.trans (S.below 0 rfl t3 c.size)
   clear S
   have S := S3
   clear S3 o3 n3 s3 t3 HC g0 g1 f18 f19 f20 f21 f22 f23 f24 f25 f26 f27 f28 f29
   replace S := S.put 1 rfl 2 (.slice A3 (n + 1) c3)
   replace c := st c S (S.base_le 1 rfl)
   generalize w3.setCell ⟨qo, 2, none⟩ (.slice A3 (n + 1) c3) = w5 at *
   have f30 := lk S 1 0 rfl rfl
   have f31 := lk S 1 1 rfl rfl
   have f32 := lk S 1 2 rfl rfl
   have f33 := lk S 2 0 rfl rfl
   have f34 := (S.at_ 2 rfl).free 0
   have f35 := lk S 2 1 rfl rfl
   have f36 := (S.at_ 2 rfl).free 1
   have f37 := lk S 2 2 rfl rfl
   have f38 := (S.at_ 2 rfl).free 2
   replace S := S.put 2 rfl 0 (.int .i64 x0)
   replace c := st c S (by omega)
   replace S := S.put 2 rfl 1 (.int .i64 x1)
   replace c := st c S (by omega)
   replace S := S.put 2 rfl 2 (.slice A3 (n + 1) c3)
   replace c := st c S (by omega)
   have H := jd S.first
   have r0 := jd ((S.at_ 2 rfl).cell 0)
   have r1 := jd ((S.at_ 2 rfl).cell 1)
   have r2 := jd ((S.at_ 2 rfl).cell 2)
   have CC := jd c
   clear S c
   go_wp2
   exact bodyPost_ret (v := .tuple #[.agg #[.int .i64 x0, .int .i64 x1, .slice A3 (n + 1) c3], .bool true]) (by simp [results, Tryz.results83, go_sem, r0.out, r1.out, r2.out]) rfl ⟨_, _, _, _, _, by rw [HV.out], by rw [HV.out]; exact has_mk H.out, CC.out⟩
end Go.Proofs.YtmjifhjhialcbaaGreat
