/- Parts of my texts: BookI4. -/
import Derived.Test.YthjjdelpdiipdaaGreatDoorMX39
namespace Go.Proofs.YthjjdelpdiipdaaGreatDoor
set_option maxRecDepth 100000
set_option linter.unusedVariables false
open Go.RowKit
set_option maxHeartbeats 12800000 in
theorem iBookOk_any (x0 x1 : Int) (A : Option Addr) (n cc B : Nat) (l : List EntM) (w : World) (h : Rd w B [entD l] [.slice A n cc]) (hB : B ≤ w.heap.size) (hs : entSz l ≤ 1048577) :
    Calls Tryz.prog 81 #[.agg #[.int .i64 x0, .int .i64 x1, .slice A n cc]] w fun e w' => e = .returned (.bool (bookB ⟨x0, x1, l⟩)) ∧ Below w.heap.size w w' := by
 have HH := jd h
 obtain ⟨_, _, _, e, hl, _, hcm, hel⟩ := h.ents
 injection e with e1 e2 e3
 subst e1 e2 e3
 have hn : n ≤ 1048577 := by unfold entSz at hs; omega
 have HL := jd hl
 have S := Sep.nil w w.heap.size
 have c := Below.refl w.heap.size w
 replace S := S.boxAt c.size (w.heap.size) rfl #[.int .i64 x0, .int .i64 x1, .slice A n cc] 49
 replace c := al c S
 have C := jd c
 by_cases c00 : x0 < 0
 case pos =>
  have d00 : decide (x0 < 0) = true := decide_eq_true c00
  have HV := jd (show false = bookB ⟨x0, x1, l⟩ from (Bool.eq_false_iff.2 fun h9 => by have h9 := (bookB_mk' x0 x1 l).1 h9; omega).symm)
  clear hel hcm S c h hl 
  go_enter Tryz.func81, Tryz.ntmps81
  go_wp2
  go_ret
  exact ⟨ret_bool HV.out, C.out⟩
 have d00 : decide (x0 < 0) = false := decide_eq_false c00
 by_cases c01 : 2000 < x0
 case pos =>
  have d01 : decide (x0 > 2000) = true := decide_eq_true c01
  have d02 : decide (2000 < x0) = true := decide_eq_true c01
  have HV := jd (show false = bookB ⟨x0, x1, l⟩ from (Bool.eq_false_iff.2 fun h9 => by have h9 := (bookB_mk' x0 x1 l).1 h9; omega).symm)
  clear hel hcm S c h hl 
  go_enter Tryz.func81, Tryz.ntmps81
  go_wp2
  go_ret
  exact ⟨ret_bool HV.out, C.out⟩
 have d01 : decide (x0 > 2000) = false := decide_eq_false c01
 have d02 : decide (2000 < x0) = false := decide_eq_false c01
 have c0 : 0 ≤ x0 ∧ x0 ≤ 2000 := by omega
 by_cases c1 : 0 ≤ x1 ∧ x1 ≤ 1000000
 case neg =>
  have C1 := jd c1
  have HV := jd (show false = bookB ⟨x0, x1, l⟩ from (Bool.eq_false_iff.2 fun h9 => by have h9 := (bookB_mk' x0 x1 l).1 h9; omega).symm)
  clear hel hcm S c h hl c0 c1
  go_enter Tryz.func81, Tryz.ntmps81
  go_wp2_with (go_at_call 115; refine (i_TimeOk_no x1 _ C1.out).mono ?_; rintro e w' ⟨rfl, rfl⟩)
  go_ret
  exact ⟨ret_bool HV.out, C.out⟩
 have C1 := jd c1
 by_cases c2 : x0 = 0 ∧ x1 ≠ 0
 case pos =>
  have e2 : (x1 == 0) = false := by simpa using c2.2
  have e3 : (x1 != 0) = true := by simpa using c2.2
  have e4 : (x0 == 0) = true := by simpa using c2.1
  have HV := jd (show false = bookB ⟨x0, x1, l⟩ from (Bool.eq_false_iff.2 fun h9 => by have h9 := (bookB_mk' x0 x1 l).1 h9; omega).symm)
  clear hel hcm S c h hl c0 c1 c2
  go_enter Tryz.func81, Tryz.ntmps81
  go_wp2_with (go_at_call 115; refine (i_TimeOk_yes x1 _ C1.out).mono ?_; rintro e w' ⟨rfl, rfl⟩)
  go_ret
  exact ⟨ret_bool HV.out, C.out⟩
 have HX := jd (show x0 ≠ 0 ∨ x1 = 0 by omega)
 have HG : ∃ g0 g1 : Bool, (x0 == 0) = g0 ∧ (x1 != 0) = g1 ∧ (g0 && g1) = false := ⟨_, _, rfl, rfl, by rw [Bool.eq_false_iff]; intro h9; simp only [Bool.and_eq_true, beq_iff_eq, bne_iff_ne] at h9; omega⟩
 obtain ⟨g0, g1, hg0, hg1, hgg⟩ := HG
 have hgs : (g0 = false) ∨ (g0 = true ∧ g1 = false) := by cases g0 <;> cases g1 <;> simp_all
 clear c2 hgg
 rcases hgs with rfl | ⟨rfl, rfl⟩
 · by_cases c3 : 20 < n
   case pos =>
    have d3 : decide ((20 : Int) < (n : Int)) = true := decide_eq_true (by omega)
    have d4 : decide ((n : Int) > 20) = true := decide_eq_true (by omega)
    have HV := jd (show false = bookB ⟨x0, x1, l⟩ from (Bool.eq_false_iff.2 fun h9 => by have h9 := (bookB_mk' x0 x1 l).1 h9; have := HL.out; omega).symm)
    clear hel hcm S c h hl c0 c1
    go_enter Tryz.func81, Tryz.ntmps81
    go_wp2_with (go_at_call 115; refine (i_TimeOk_yes x1 _ C1.out).mono ?_; rintro e w' ⟨rfl, rfl⟩)
    go_ret
    exact ⟨ret_bool HV.out, C.out⟩
   have d3 : decide ((20 : Int) < (n : Int)) = false := decide_eq_false (by omega)
   have d4 : decide ((n : Int) > 20) = false := decide_eq_false (by omega)
   go_enter Tryz.func81, Tryz.ntmps81
   have f0 := lk S 0 0 rfl rfl
   have f1 := lk S 0 1 rfl rfl
   have f2 := lk S 0 2 rfl rfl
   go_wp2_with (go_at_call 115; refine (i_TimeOk_yes x1 _ C1.out).mono ?_; rintro e w' ⟨rfl, rfl⟩)
   generalize w.alloc (.cells #[.int .i64 x0, .int .i64 x1, .slice A n cc] 49) = w1 at *
   refine (iEntries_any A n cc B l _ (HH.out.keep (c.mono hB)) (Nat.le_trans hB c.size) hs).mono ?_
   rintro e w2 ⟨rfl, b2⟩
   replace c := c.trans (b2.mono c.size)
   replace S := S.keep b2
   clear b2 f0 f1 f2
   cases hok : entsB l
   case false =>
    have HV := jd (show false = bookB ⟨x0, x1, l⟩ from (Bool.eq_false_iff.2 fun h9 => by have h9 := (bookB_mk' x0 x1 l).1 h9; rw [hok] at h9; exact absurd h9.2.2.2.2.1 (by decide)).symm)
    have CC := jd c
    clear hel S c hok c0 c1
    go_wp2
    go_ret
    exact ⟨ret_bool HV.out, CC.out⟩
   case true =>
    have HB := jd (show headB ⟨x0, x1, l⟩ = bookB ⟨x0, x1, l⟩ by
     rw [Bool.eq_iff_iff, bookB_mk']
     have h8 := HX.out
     have h9 := HL.out
     exact ⟨fun h7 => ⟨c0, c1, h8, by omega, hok, h7⟩, fun h7 => h7.2.2.2.2.2⟩)
    clear hok
    have f3 := lk S 0 0 rfl rfl
    have f4 := lk S 0 1 rfl rfl
    have f5 := lk S 0 2 rfl rfl
    by_cases hn0 : n = 0
    case pos =>
     subst hn0
     have hz : decide (((0 : Nat) : Int) = 0) = true := rfl
     have HV := jd (show true = bookB ⟨x0, x1, l⟩ by rw [← HB.out]; unfold headB; rw [decide_eq_true (show l.length = 0 from HL.out)]; rfl)
     clear c0 c1 hel
     go_wp2_with fail
     refine wp_region_cls (fun v => v.cell? ⟨w.heap.size, 0, none⟩ = some (.int .i64 x0) ∧ v.cell? ⟨w.heap.size, 1, none⟩ = some (.int .i64 x1) ∧ v.cell? ⟨w.heap.size, 2, none⟩ = some (.slice A 0 cc)) (by kernel_rfl) (by kernel_rfl) (fun v hv => ⟨cq hv f3, cq hv f4, cq hv f5⟩) ?_
     intro CL HF HC
     repeat
      (first
         | go_big_quiet_skip
         | (go_big_quiet_want
            go_big_quiet_op
            first
             | go_big_quiet_on
             | (apply Exists.intro
                refine ⟨fun v hv => ?_, ?_⟩
                · obtain ⟨a0, a1, a2⟩ := HF v hv
                  first
                   | exact rfl
                   | (go_simp; exact rfl)
                   | (go_simp; exact ⟨rfl, hv⟩)
                go_big_quiet_on)))
     refine wpQuiet_nil ?_
     intro w3 b3
     have CC := jd (c.trans (b3.mono c.size))
     clear S c f3 f4 f5
     go_wp2
     go_ret
     exact ⟨ret_bool HV.out, CC.out⟩
    case neg =>
     obtain ⟨b, off, rfl, hb, hc⟩ := hel (by omega)
     have hjl : 0 < l.length := by have := HL.out; omega
     obtain ⟨hd0, hd1, hd2, hd3, hd4, hd5, hd6, hd7, hd8⟩ := hc 0 hjl
     simp only [Nat.zero_mul, Nat.add_zero] at hd0 hd1 hd2 hd3 hd4 hd5 hd6 hd7 hd8
     have k0 := cu c hd0 (show b < _ by omega)
     obtain ⟨y0, hy0⟩ : ∃ y, y = l[0].idx := ⟨_, rfl⟩
     rw [← hy0] at k0
     have k1 := cu c hd1 (show b < _ by omega)
     obtain ⟨y1, hy1⟩ : ∃ y, y = l[0].tm := ⟨_, rfl⟩
     rw [← hy1] at k1
     have k2 := cu c hd2 (show b < _ by omega)
     obtain ⟨y2, hy2⟩ : ∃ y, y = l[0].cl := ⟨_, rfl⟩
     rw [← hy2] at k2
     have k3 := cu c hd3 (show b < _ by omega)
     obtain ⟨y3, hy3⟩ : ∃ y, y = l[0].sq := ⟨_, rfl⟩
     rw [← hy3] at k3
     have k4 := cu c hd4 (show b < _ by omega)
     obtain ⟨y4, hy4⟩ : ∃ y, y = l[0].kd := ⟨_, rfl⟩
     rw [← hy4] at k4
     have k5 := cu c hd5 (show b < _ by omega)
     obtain ⟨y5, hy5⟩ : ∃ y, y = l[0].oa := ⟨_, rfl⟩
     rw [← hy5] at k5
     have k6 := cu c hd6 (show b < _ by omega)
     obtain ⟨y6, hy6⟩ : ∃ y, y = l[0].ob := ⟨_, rfl⟩
     rw [← hy6] at k6
     have k7 := cu c hd7 (show b < _ by omega)
     obtain ⟨y7, hy7⟩ : ∃ y, y = l[0].oc := ⟨_, rfl⟩
     rw [← hy7] at k7
     have k8 := cu c hd8 (show b < _ by omega)
     obtain ⟨y8, hy8⟩ : ∃ y, y = l[0].od := ⟨_, rfl⟩
     rw [← hy8] at k8
     have HQ := jd (show (decide (y0 = x0 + 1) && decide (x1 ≤ y1)) = bookB ⟨x0, x1, l⟩ by rw [← HB.out]; unfold headB; rw [decide_eq_false (show ¬ l.length = 0 by omega), egetD hjl, ← hy0, ← hy1, Bool.false_or])
     have HD := jd (show 0 ≤ x0 ∧ x0 ≤ 1000000 by omega)
     have hz : decide ((n : Int) = 0) = false := decide_eq_false (by omega)
     have hz2 : ((n : Int) == 0) = false := by simp; omega
     have hz3 : ¬ n = 0 := hn0
     have n0 : (0 : Int) < (n : Int) := by omega
     clear hel hc c0 c1 hd0 hy0 hd1 hy1 hd2 hy2 hd3 hy3 hd4 hy4 hd5 hy5 hd6 hy6 hd7 hy7 hd8 hy8
     go_wp2_with fail
     cases p2 : (decide (y0 = x0 + 1) && decide (x1 ≤ y1))
     case false =>
      have HV := jd (show false = bookB ⟨x0, x1, l⟩ by rw [← HQ.out, p2])
      refine wp_region_cls (fun v => v.cell? ⟨w.heap.size, 0, none⟩ = some (.int .i64 x0) ∧ v.cell? ⟨w.heap.size, 1, none⟩ = some (.int .i64 x1) ∧ v.cell? ⟨w.heap.size, 2, none⟩ = some (.slice (some ⟨b, off, none⟩) n cc) ∧ v.cell? ⟨b, off, none⟩ = some (.int .i64 y0) ∧ v.cell? ⟨b, off + 1, none⟩ = some (.int .i64 y1) ∧ v.cell? ⟨b, off + 2, none⟩ = some (.int .i64 y2) ∧ v.cell? ⟨b, off + 3, none⟩ = some (.int .i64 y3) ∧ v.cell? ⟨b, off + 4, none⟩ = some (.int .i64 y4) ∧ v.cell? ⟨b, off + 5, none⟩ = some (.int .i64 y5) ∧ v.cell? ⟨b, off + 6, none⟩ = some (.int .i64 y6) ∧ v.cell? ⟨b, off + 7, none⟩ = some (.int .i64 y7) ∧ v.cell? ⟨b, off + 8, none⟩ = some (.int .i64 y8)) (by kernel_rfl) (by kernel_rfl) (fun v hv => ⟨cq hv f3, cq hv f4, cq hv f5, cq hv k0, cq hv k1, cq hv k2, cq hv k3, cq hv k4, cq hv k5, cq hv k6, cq hv k7, cq hv k8⟩) ?_
      intro CL HF HC
      repeat
       (first
          | go_big_quiet_skip
          | (go_big_quiet_want
             go_big_quiet_op
             first
              | go_big_quiet_on
              | (apply Exists.intro
                 refine ⟨fun v hv => ?_, ?_⟩
                 · obtain ⟨a0, a1, a2, a3, a4, a5, a6, a7, a8, a9, a10, a11⟩ := HF v hv
                   first
                    | (go_at_call 120; exact Calls.cls HC hv (iBaseOf_any x0 x1 _ n cc v) rfl)
                    | (go_at_call 119; exact Calls.cls HC hv (iFollows_any y0 y1 y2 y3 y4 y5 y6 y7 y8 x0 x1 0 0 0 0 0 0 0 HD.out v) (congrArg Value.bool p2))
                    | exact rfl
                    | (go_simp; exact rfl)
                    | (go_simp; exact ⟨rfl, hv⟩)
                 go_big_quiet_on)))
      refine wpQuiet_nil ?_
      intro w3 b3
      have CC := jd (c.trans (b3.mono c.size))
      clear S c k0 k1 k2 k3 k4 k5 k6 k7 k8 f3 f4 f5
      go_wp2
      go_ret
      exact ⟨ret_bool HV.out, CC.out⟩
     case true =>
      have HV := jd (show true = bookB ⟨x0, x1, l⟩ by rw [← HQ.out, p2])
      refine wp_region_cls (fun v => v.cell? ⟨w.heap.size, 0, none⟩ = some (.int .i64 x0) ∧ v.cell? ⟨w.heap.size, 1, none⟩ = some (.int .i64 x1) ∧ v.cell? ⟨w.heap.size, 2, none⟩ = some (.slice (some ⟨b, off, none⟩) n cc) ∧ v.cell? ⟨b, off, none⟩ = some (.int .i64 y0) ∧ v.cell? ⟨b, off + 1, none⟩ = some (.int .i64 y1) ∧ v.cell? ⟨b, off + 2, none⟩ = some (.int .i64 y2) ∧ v.cell? ⟨b, off + 3, none⟩ = some (.int .i64 y3) ∧ v.cell? ⟨b, off + 4, none⟩ = some (.int .i64 y4) ∧ v.cell? ⟨b, off + 5, none⟩ = some (.int .i64 y5) ∧ v.cell? ⟨b, off + 6, none⟩ = some (.int .i64 y6) ∧ v.cell? ⟨b, off + 7, none⟩ = some (.int .i64 y7) ∧ v.cell? ⟨b, off + 8, none⟩ = some (.int .i64 y8)) (by kernel_rfl) (by kernel_rfl) (fun v hv => ⟨cq hv f3, cq hv f4, cq hv f5, cq hv k0, cq hv k1, cq hv k2, cq hv k3, cq hv k4, cq hv k5, cq hv k6, cq hv k7, cq hv k8⟩) ?_
      intro CL HF HC
      repeat
       (first
          | go_big_quiet_skip
          | (go_big_quiet_want
             go_big_quiet_op
             first
              | go_big_quiet_on
              | (apply Exists.intro
                 refine ⟨fun v hv => ?_, ?_⟩
                 · obtain ⟨a0, a1, a2, a3, a4, a5, a6, a7, a8, a9, a10, a11⟩ := HF v hv
                   first
                    | (go_at_call 120; exact Calls.cls HC hv (iBaseOf_any x0 x1 _ n cc v) rfl)
                    | (go_at_call 119; exact Calls.cls HC hv (iFollows_any y0 y1 y2 y3 y4 y5 y6 y7 y8 x0 x1 0 0 0 0 0 0 0 HD.out v) (congrArg Value.bool p2))
                    | exact rfl
                    | (go_simp; exact rfl)
                    | (go_simp; exact ⟨rfl, hv⟩)
                 go_big_quiet_on)))
      refine wpQuiet_nil ?_
      intro w3 b3
      have CC := jd (c.trans (b3.mono c.size))
      clear S c k0 k1 k2 k3 k4 k5 k6 k7 k8 f3 f4 f5
      go_wp2
      go_ret
      exact ⟨ret_bool HV.out, CC.out⟩
 · by_cases c3 : 20 < n
   case pos =>
    have d3 : decide ((20 : Int) < (n : Int)) = true := decide_eq_true (by omega)
    have d4 : decide ((n : Int) > 20) = true := decide_eq_true (by omega)
    have HV := jd (show false = bookB ⟨x0, x1, l⟩ from (Bool.eq_false_iff.2 fun h9 => by have h9 := (bookB_mk' x0 x1 l).1 h9; have := HL.out; omega).symm)
    clear hel hcm S c h hl c0 c1
    go_enter Tryz.func81, Tryz.ntmps81
    go_wp2_with (go_at_call 115; refine (i_TimeOk_yes x1 _ C1.out).mono ?_; rintro e w' ⟨rfl, rfl⟩)
    go_ret
    exact ⟨ret_bool HV.out, C.out⟩
   have d3 : decide ((20 : Int) < (n : Int)) = false := decide_eq_false (by omega)
   have d4 : decide ((n : Int) > 20) = false := decide_eq_false (by omega)
   go_enter Tryz.func81, Tryz.ntmps81
   have f0 := lk S 0 0 rfl rfl
   have f1 := lk S 0 1 rfl rfl
   have f2 := lk S 0 2 rfl rfl
   go_wp2_with (go_at_call 115; refine (i_TimeOk_yes x1 _ C1.out).mono ?_; rintro e w' ⟨rfl, rfl⟩)
   generalize w.alloc (.cells #[.int .i64 x0, .int .i64 x1, .slice A n cc] 49) = w1 at *
   refine (iEntries_any A n cc B l _ (HH.out.keep (c.mono hB)) (Nat.le_trans hB c.size) hs).mono ?_
   rintro e w2 ⟨rfl, b2⟩
   replace c := c.trans (b2.mono c.size)
   replace S := S.keep b2
   clear b2 f0 f1 f2
   cases hok : entsB l
   case false =>
    have HV := jd (show false = bookB ⟨x0, x1, l⟩ from (Bool.eq_false_iff.2 fun h9 => by have h9 := (bookB_mk' x0 x1 l).1 h9; rw [hok] at h9; exact absurd h9.2.2.2.2.1 (by decide)).symm)
    have CC := jd c
    clear hel S c hok c0 c1
    go_wp2
    go_ret
    exact ⟨ret_bool HV.out, CC.out⟩
   case true =>
    have HB := jd (show headB ⟨x0, x1, l⟩ = bookB ⟨x0, x1, l⟩ by
     rw [Bool.eq_iff_iff, bookB_mk']
     have h8 := HX.out
     have h9 := HL.out
     exact ⟨fun h7 => ⟨c0, c1, h8, by omega, hok, h7⟩, fun h7 => h7.2.2.2.2.2⟩)
    clear hok
    have f3 := lk S 0 0 rfl rfl
    have f4 := lk S 0 1 rfl rfl
    have f5 := lk S 0 2 rfl rfl
    by_cases hn0 : n = 0
    case pos =>
     subst hn0
     have hz : decide (((0 : Nat) : Int) = 0) = true := rfl
     have HV := jd (show true = bookB ⟨x0, x1, l⟩ by rw [← HB.out]; unfold headB; rw [decide_eq_true (show l.length = 0 from HL.out)]; rfl)
     clear c0 c1 hel
     go_wp2_with fail
     refine wp_region_cls (fun v => v.cell? ⟨w.heap.size, 0, none⟩ = some (.int .i64 x0) ∧ v.cell? ⟨w.heap.size, 1, none⟩ = some (.int .i64 x1) ∧ v.cell? ⟨w.heap.size, 2, none⟩ = some (.slice A 0 cc)) (by kernel_rfl) (by kernel_rfl) (fun v hv => ⟨cq hv f3, cq hv f4, cq hv f5⟩) ?_
     intro CL HF HC
     repeat
      (first
         | go_big_quiet_skip
         | (go_big_quiet_want
            go_big_quiet_op
            first
             | go_big_quiet_on
             | (apply Exists.intro
                refine ⟨fun v hv => ?_, ?_⟩
                · obtain ⟨a0, a1, a2⟩ := HF v hv
                  first
                   | exact rfl
                   | (go_simp; exact rfl)
                   | (go_simp; exact ⟨rfl, hv⟩)
                go_big_quiet_on)))
     refine wpQuiet_nil ?_
     intro w3 b3
     have CC := jd (c.trans (b3.mono c.size))
     clear S c f3 f4 f5
     go_wp2
     go_ret
     exact ⟨ret_bool HV.out, CC.out⟩
    case neg =>
     obtain ⟨b, off, rfl, hb, hc⟩ := hel (by omega)
     have hjl : 0 < l.length := by have := HL.out; omega
     obtain ⟨hd0, hd1, hd2, hd3, hd4, hd5, hd6, hd7, hd8⟩ := hc 0 hjl
     simp only [Nat.zero_mul, Nat.add_zero] at hd0 hd1 hd2 hd3 hd4 hd5 hd6 hd7 hd8
     have k0 := cu c hd0 (show b < _ by omega)
     obtain ⟨y0, hy0⟩ : ∃ y, y = l[0].idx := ⟨_, rfl⟩
     rw [← hy0] at k0
     have k1 := cu c hd1 (show b < _ by omega)
     obtain ⟨y1, hy1⟩ : ∃ y, y = l[0].tm := ⟨_, rfl⟩
     rw [← hy1] at k1
     have k2 := cu c hd2 (show b < _ by omega)
     obtain ⟨y2, hy2⟩ : ∃ y, y = l[0].cl := ⟨_, rfl⟩
     rw [← hy2] at k2
     have k3 := cu c hd3 (show b < _ by omega)
     obtain ⟨y3, hy3⟩ : ∃ y, y = l[0].sq := ⟨_, rfl⟩
     rw [← hy3] at k3
     have k4 := cu c hd4 (show b < _ by omega)
     obtain ⟨y4, hy4⟩ : ∃ y, y = l[0].kd := ⟨_, rfl⟩
     rw [← hy4] at k4
     have k5 := cu c hd5 (show b < _ by omega)
     obtain ⟨y5, hy5⟩ : ∃ y, y = l[0].oa := ⟨_, rfl⟩
     rw [← hy5] at k5
     have k6 := cu c hd6 (show b < _ by omega)
     obtain ⟨y6, hy6⟩ : ∃ y, y = l[0].ob := ⟨_, rfl⟩
     rw [← hy6] at k6
     have k7 := cu c hd7 (show b < _ by omega)
     obtain ⟨y7, hy7⟩ : ∃ y, y = l[0].oc := ⟨_, rfl⟩
     rw [← hy7] at k7
     have k8 := cu c hd8 (show b < _ by omega)
     obtain ⟨y8, hy8⟩ : ∃ y, y = l[0].od := ⟨_, rfl⟩
     rw [← hy8] at k8
     have HQ := jd (show (decide (y0 = x0 + 1) && decide (x1 ≤ y1)) = bookB ⟨x0, x1, l⟩ by rw [← HB.out]; unfold headB; rw [decide_eq_false (show ¬ l.length = 0 by omega), egetD hjl, ← hy0, ← hy1, Bool.false_or])
     have HD := jd (show 0 ≤ x0 ∧ x0 ≤ 1000000 by omega)
     have hz : decide ((n : Int) = 0) = false := decide_eq_false (by omega)
     have hz2 : ((n : Int) == 0) = false := by simp; omega
     have hz3 : ¬ n = 0 := hn0
     have n0 : (0 : Int) < (n : Int) := by omega
     clear hel hc c0 c1 hd0 hy0 hd1 hy1 hd2 hy2 hd3 hy3 hd4 hy4 hd5 hy5 hd6 hy6 hd7 hy7 hd8 hy8
     go_wp2_with fail
     cases p2 : (decide (y0 = x0 + 1) && decide (x1 ≤ y1))
     case false =>
      have HV := jd (show false = bookB ⟨x0, x1, l⟩ by rw [← HQ.out, p2])
      refine wp_region_cls (fun v => v.cell? ⟨w.heap.size, 0, none⟩ = some (.int .i64 x0) ∧ v.cell? ⟨w.heap.size, 1, none⟩ = some (.int .i64 x1) ∧ v.cell? ⟨w.heap.size, 2, none⟩ = some (.slice (some ⟨b, off, none⟩) n cc) ∧ v.cell? ⟨b, off, none⟩ = some (.int .i64 y0) ∧ v.cell? ⟨b, off + 1, none⟩ = some (.int .i64 y1) ∧ v.cell? ⟨b, off + 2, none⟩ = some (.int .i64 y2) ∧ v.cell? ⟨b, off + 3, none⟩ = some (.int .i64 y3) ∧ v.cell? ⟨b, off + 4, none⟩ = some (.int .i64 y4) ∧ v.cell? ⟨b, off + 5, none⟩ = some (.int .i64 y5) ∧ v.cell? ⟨b, off + 6, none⟩ = some (.int .i64 y6) ∧ v.cell? ⟨b, off + 7, none⟩ = some (.int .i64 y7) ∧ v.cell? ⟨b, off + 8, none⟩ = some (.int .i64 y8)) (by kernel_rfl) (by kernel_rfl) (fun v hv => ⟨cq hv f3, cq hv f4, cq hv f5, cq hv k0, cq hv k1, cq hv k2, cq hv k3, cq hv k4, cq hv k5, cq hv k6, cq hv k7, cq hv k8⟩) ?_
      intro CL HF HC
      repeat
       (first
          | go_big_quiet_skip
          | (go_big_quiet_want
             go_big_quiet_op
             first
              | go_big_quiet_on
              | (apply Exists.intro
                 refine ⟨fun v hv => ?_, ?_⟩
                 · obtain ⟨a0, a1, a2, a3, a4, a5, a6, a7, a8, a9, a10, a11⟩ := HF v hv
                   first
                    | (go_at_call 120; exact Calls.cls HC hv (iBaseOf_any x0 x1 _ n cc v) rfl)
                    | (go_at_call 119; exact Calls.cls HC hv (iFollows_any y0 y1 y2 y3 y4 y5 y6 y7 y8 x0 x1 0 0 0 0 0 0 0 HD.out v) (congrArg Value.bool p2))
                    | exact rfl
                    | (go_simp; exact rfl)
                    | (go_simp; exact ⟨rfl, hv⟩)
                 go_big_quiet_on)))
      refine wpQuiet_nil ?_
      intro w3 b3
      have CC := jd (c.trans (b3.mono c.size))
      clear S c k0 k1 k2 k3 k4 k5 k6 k7 k8 f3 f4 f5
      go_wp2
      go_ret
      exact ⟨ret_bool HV.out, CC.out⟩
     case true =>
      have HV := jd (show true = bookB ⟨x0, x1, l⟩ by rw [← HQ.out, p2])
      refine wp_region_cls (fun v => v.cell? ⟨w.heap.size, 0, none⟩ = some (.int .i64 x0) ∧ v.cell? ⟨w.heap.size, 1, none⟩ = some (.int .i64 x1) ∧ v.cell? ⟨w.heap.size, 2, none⟩ = some (.slice (some ⟨b, off, none⟩) n cc) ∧ v.cell? ⟨b, off, none⟩ = some (.int .i64 y0) ∧ v.cell? ⟨b, off + 1, none⟩ = some (.int .i64 y1) ∧ v.cell? ⟨b, off + 2, none⟩ = some (.int .i64 y2) ∧ v.cell? ⟨b, off + 3, none⟩ = some (.int .i64 y3) ∧ v.cell? ⟨b, off + 4, none⟩ = some (.int .i64 y4) ∧ v.cell? ⟨b, off + 5, none⟩ = some (.int .i64 y5) ∧ v.cell? ⟨b, off + 6, none⟩ = some (.int .i64 y6) ∧ v.cell? ⟨b, off + 7, none⟩ = some (.int .i64 y7) ∧ v.cell? ⟨b, off + 8, none⟩ = some (.int .i64 y8)) (by kernel_rfl) (by kernel_rfl) (fun v hv => ⟨cq hv f3, cq hv f4, cq hv f5, cq hv k0, cq hv k1, cq hv k2, cq hv k3, cq hv k4, cq hv k5, cq hv k6, cq hv k7, cq hv k8⟩) ?_
      intro CL HF HC
      repeat
       (first
          | go_big_quiet_skip
          | (go_big_quiet_want
             go_big_quiet_op
             first
              | go_big_quiet_on
              | (apply Exists.intro
                 refine ⟨fun v hv => ?_, ?_⟩
                 · obtain ⟨a0, a1, a2, a3, a4, a5, a6, a7, a8, a9, a10, a11⟩ := HF v hv
                   first
                    | (go_at_call 120; exact Calls.cls HC hv (iBaseOf_any x0 x1 _ n cc v) rfl)
                    | (go_at_call 119; exact Calls.cls HC hv (iFollows_any y0 y1 y2 y3 y4 y5 y6 y7 y8 x0 x1 0 0 0 0 0 0 0 HD.out v) (congrArg Value.bool p2))
                    | exact rfl
                    | (go_simp; exact rfl)
                    | (go_simp; exact ⟨rfl, hv⟩)
                 go_big_quiet_on)))
      refine wpQuiet_nil ?_
      intro w3 b3
      have CC := jd (c.trans (b3.mono c.size))
      clear S c k0 k1 k2 k3 k4 k5 k6 k7 k8 f3 f4 f5
      go_wp2
      go_ret
      exact ⟨ret_bool HV.out, CC.out⟩
set_option maxHeartbeats 3200000 in
theorem iLastOf_any (x0 x1 : Int) (A : Option Addr) (n cc B : Nat) (l : List EntM) (w : World) (h : Rd w B [entD l] [.slice A n cc]) (hB : B ≤ w.heap.size) (hs : entSz l ≤ 1048577) :
    Calls Tryz.prog 84 #[.agg #[.int .i64 x0, .int .i64 x1, .slice A n cc]] w fun e w' => e = .returned (.int .i64 (lastM ⟨x0, x1, l⟩)) ∧ Below w.heap.size w w' := by
 have HH := jd h
 obtain ⟨_, _, _, e, hl, _, hcm, hel⟩ := h.ents
 injection e with e1 e2 e3
 subst e1 e2 e3
 have hn : n ≤ 1048577 := by unfold entSz at hs; omega
 have HL := jd hl
 clear hel hcm
 have S := Sep.nil w w.heap.size
 have c := Below.refl w.heap.size w
 replace S := S.boxAt c.size (w.heap.size) rfl #[.int .i64 x0, .int .i64 x1, .slice A n cc] 49
 replace c := al c S
 go_enter Tryz.func84, Tryz.ntmps84
 have f0 := lk S 0 0 rfl rfl
 have f1 := lk S 0 1 rfl rfl
 have f2 := lk S 0 2 rfl rfl
 go_wp2_with fail
 generalize w.alloc (.cells #[.int .i64 x0, .int .i64 x1, .slice A n cc] 49) = w1 at *
 refine (iBookOk_any x0 x1 A n cc B l _ (HH.out.keep (c.mono hB)) (Nat.le_trans hB c.size) hs).mono ?_
 rintro e w2 ⟨rfl, b2⟩
 replace c := c.trans (b2.mono c.size)
 replace S := S.keep b2
 clear b2 f0 f1 f2
 cases hok : bookB ⟨x0, x1, l⟩
 case false =>
  have HV := jd (show lastM ⟨x0, x1, l⟩ = 0 by unfold lastM; rw [hok]; rfl)
  have CC := jd c
  clear S c hok
  go_wp2
  go_ret
  exact ⟨ret_i64 HV.out.symm, CC.out⟩
 case true =>
  have hv : lastM ⟨x0, x1, l⟩ = (endM ⟨x0, x1, l⟩).idx := by unfold lastM; rw [if_pos hok, endM_idx hok]
  clear hok
  obtain ⟨y0, hy0⟩ : ∃ q, q = (endM ⟨x0, x1, l⟩).idx := ⟨_, rfl⟩
  obtain ⟨y1, hy1⟩ : ∃ q, q = (endM ⟨x0, x1, l⟩).tm := ⟨_, rfl⟩
  obtain ⟨y2, hy2⟩ : ∃ q, q = (endM ⟨x0, x1, l⟩).cl := ⟨_, rfl⟩
  obtain ⟨y3, hy3⟩ : ∃ q, q = (endM ⟨x0, x1, l⟩).sq := ⟨_, rfl⟩
  obtain ⟨y4, hy4⟩ : ∃ q, q = (endM ⟨x0, x1, l⟩).kd := ⟨_, rfl⟩
  obtain ⟨y5, hy5⟩ : ∃ q, q = (endM ⟨x0, x1, l⟩).oa := ⟨_, rfl⟩
  obtain ⟨y6, hy6⟩ : ∃ q, q = (endM ⟨x0, x1, l⟩).ob := ⟨_, rfl⟩
  obtain ⟨y7, hy7⟩ : ∃ q, q = (endM ⟨x0, x1, l⟩).oc := ⟨_, rfl⟩
  obtain ⟨y8, hy8⟩ : ∃ q, q = (endM ⟨x0, x1, l⟩).od := ⟨_, rfl⟩
  have HE : ∀ (v : World), B ≤ v.heap.size → Rd v B [entD l] [.slice A n cc] → Calls Tryz.prog 125 #[.agg #[.int .i64 x0, .int .i64 x1, .slice A n cc]] v fun e w' => e = .returned (.agg #[.int .i64 y0, .int .i64 y1, .int .i64 y2, .int .i64 y3, .int .i64 y4, .int .i64 y5, .int .i64 y6, .int .i64 y7, .int .i64 y8]) ∧ Below v.heap.size v w' := fun v h1 h2 => by
   have := iEndOf_any x0 x1 A n cc B l v h2 h1 hs
   rw [← hy0, ← hy1, ← hy2, ← hy3, ← hy4, ← hy5, ← hy6, ← hy7, ← hy8] at this
   exact this
  rw [← hy0] at hv
  have HV := jd hv
  clear hv hy0 hy1 hy2 hy3 hy4 hy5 hy6 hy7 hy8
  have hfd : ∀ w9, (Instr.field 98 (.agg #[.int .i64 y0, .int .i64 y1, .int .i64 y2, .int .i64 y3, .int .i64 y4, .int .i64 y5, .int .i64 y6, .int .i64 y7, .int .i64 y8]) 0).run Tryz.prog w9 = .ok (.int .i64 y0) w9 := fun _ => by kernel_rfl
  have f3 := lk S 0 0 rfl rfl
  have f4 := lk S 0 1 rfl rfl
  have f5 := lk S 0 2 rfl rfl
  go_wp2_with fail
  refine (HE _ (Nat.le_trans hB c.size) (HH.out.keep (c.mono hB))).mono ?_
  rintro e w3 ⟨rfl, b2⟩
  replace c := c.trans (b2.mono c.size)
  replace S := S.keep b2
  clear b2 f3 f4 f5
  have CC := jd c
  clear S c
  go_wp2
  go_ret
  exact ⟨ret_i64 HV.out.symm, CC.out⟩
end Go.Proofs.YthjjdelpdiipdaaGreatDoor
