/- Parts of my texts: HeadI2 HeadIC BookIC. -/
import Derived.Test.YthjjdelpdiipdaaGreatDoorMX43
import Derived.Test.YthjjdelpdiipdaaGreatDoorMX45
namespace Go.Proofs.YthjjdelpdiipdaaGreatDoor
set_option maxRecDepth 100000
set_option linter.unusedVariables false
open Go.RowKit
theorem headOkB_mkI (x0 x1 x2 : Int) (l : List MarkM) : headOkB ⟨x0, x1, x2, l⟩ = true ↔ (0 ≤ x1 ∧ x1 ≤ 2000) ∧ (0 ≤ x0 ∧ x0 ≤ x1) ∧ (0 ≤ x2 ∧ x2 ≤ 1000000) ∧ (0 < x1 ∨ x2 = 0) ∧ seenB l = true ∧ lastS l = x1 := headOkB_iff _
set_option maxHeartbeats 12800000 in
theorem iHeadOk_any (x0 x1 x2 : Int) (A : Option Addr) (n cc B : Nat) (l : List MarkM) (w : World) (h : Rd w B [mrkD l] [.slice A n cc]) (hB : B ≤ w.heap.size) (hs : mrkSz l ≤ 1048577) :
    Calls Tryz.prog 80 #[.agg #[.int .i64 x0, .int .i64 x1, .int .i64 x2, .slice A n cc]] w fun e w' => e = .returned (.bool (headOkB ⟨x0, x1, x2, l⟩)) ∧ Below w.heap.size w w' := by
 have HH := jd h
 clear h
 have S := Sep.nil w w.heap.size
 have c := Below.refl w.heap.size w
 replace S := S.boxAt c.size (w.heap.size) rfl #[.int .i64 x0, .int .i64 x1, .int .i64 x2, .slice A n cc] 46
 replace c := al c S
 have C := jd c
 by_cases c0 : x1 < 0
 case pos =>
  have d0 : decide (x1 < 0) = true := decide_eq_true (by omega)
  have d0' : decide (0 > x1) = true := decide_eq_true (by omega)
  have HV := jd (show false = headOkB ⟨x0, x1, x2, l⟩ from (Bool.eq_false_iff.2 fun h9 => by have h9 := (headOkB_mkI x0 x1 x2 l).1 h9; omega).symm)
  clear S c 
  go_enter Tryz.func80, Tryz.ntmps80
  go_wp2
  go_ret
  exact ⟨ret_bool HV.out, C.out⟩
 have d0 : decide (x1 < 0) = false := decide_eq_false (by omega)
 have d0' : decide (0 > x1) = false := decide_eq_false (by omega)
 by_cases c1 : 2000 < x1
 case pos =>
  have d1 : decide (2000 < x1) = true := decide_eq_true (by omega)
  have d1' : decide (x1 > 2000) = true := decide_eq_true (by omega)
  have HV := jd (show false = headOkB ⟨x0, x1, x2, l⟩ from (Bool.eq_false_iff.2 fun h9 => by have h9 := (headOkB_mkI x0 x1 x2 l).1 h9; omega).symm)
  clear S c 
  go_enter Tryz.func80, Tryz.ntmps80
  go_wp2
  go_ret
  exact ⟨ret_bool HV.out, C.out⟩
 have d1 : decide (2000 < x1) = false := decide_eq_false (by omega)
 have d1' : decide (x1 > 2000) = false := decide_eq_false (by omega)
 by_cases c2 : x0 < 0
 case pos =>
  have d2 : decide (x0 < 0) = true := decide_eq_true (by omega)
  have d2' : decide (0 > x0) = true := decide_eq_true (by omega)
  have HV := jd (show false = headOkB ⟨x0, x1, x2, l⟩ from (Bool.eq_false_iff.2 fun h9 => by have h9 := (headOkB_mkI x0 x1 x2 l).1 h9; omega).symm)
  clear S c 
  go_enter Tryz.func80, Tryz.ntmps80
  go_wp2
  go_ret
  exact ⟨ret_bool HV.out, C.out⟩
 have d2 : decide (x0 < 0) = false := decide_eq_false (by omega)
 have d2' : decide (0 > x0) = false := decide_eq_false (by omega)
 by_cases c3 : x1 < x0
 case pos =>
  have d3 : decide (x1 < x0) = true := decide_eq_true (by omega)
  have d3' : decide (x0 > x1) = true := decide_eq_true (by omega)
  have HV := jd (show false = headOkB ⟨x0, x1, x2, l⟩ from (Bool.eq_false_iff.2 fun h9 => by have h9 := (headOkB_mkI x0 x1 x2 l).1 h9; omega).symm)
  clear S c 
  go_enter Tryz.func80, Tryz.ntmps80
  go_wp2
  go_ret
  exact ⟨ret_bool HV.out, C.out⟩
 have d3 : decide (x1 < x0) = false := decide_eq_false (by omega)
 have d3' : decide (x0 > x1) = false := decide_eq_false (by omega)
 have c5 : (0 ≤ x1 ∧ x1 ≤ 2000) ∧ (0 ≤ x0 ∧ x0 ≤ x1) := by omega
 clear c0 c1 c2 c3
 by_cases c1 : 0 ≤ x2 ∧ x2 ≤ 1000000
 case neg =>
  have C1 := jd c1
  have HV := jd (show false = headOkB ⟨x0, x1, x2, l⟩ from (Bool.eq_false_iff.2 fun h9 => by have h9 := (headOkB_mkI x0 x1 x2 l).1 h9; omega).symm)
  clear S c c5 c1
  go_enter Tryz.func80, Tryz.ntmps80
  go_wp2_with (go_at_call 115; refine (i_TimeOk_no x2 _ C1.out).mono ?_; rintro e w' ⟨rfl, rfl⟩)
  go_ret
  exact ⟨ret_bool HV.out, C.out⟩
 have C1 := jd c1
 by_cases c2 : x1 = 0 ∧ x2 ≠ 0
 case pos =>
  have e2 : (x2 == 0) = false := by simpa using c2.2
  have e3 : (x2 != 0) = true := by simpa using c2.2
  have e4 : (x1 == 0) = true := by simpa using c2.1
  have HV := jd (show false = headOkB ⟨x0, x1, x2, l⟩ from (Bool.eq_false_iff.2 fun h9 => by have h9 := (headOkB_mkI x0 x1 x2 l).1 h9; omega).symm)
  clear S c c5 c1 c2
  go_enter Tryz.func80, Tryz.ntmps80
  go_wp2_with (go_at_call 115; refine (i_TimeOk_yes x2 _ C1.out).mono ?_; rintro e w' ⟨rfl, rfl⟩)
  go_ret
  exact ⟨ret_bool HV.out, C.out⟩
 have HX := jd (show 0 < x1 ∨ x2 = 0 by omega)
 have HG : ∃ g0 g1 : Bool, (x1 == 0) = g0 ∧ (x2 != 0) = g1 ∧ (g0 && g1) = false := ⟨_, _, rfl, rfl, by rw [Bool.eq_false_iff]; intro h9; simp only [Bool.and_eq_true, beq_iff_eq, bne_iff_ne] at h9; omega⟩
 obtain ⟨g0, g1, hg0, hg1, hgg⟩ := HG
 have hgs : (g0 = false) ∨ (g0 = true ∧ g1 = false) := by cases g0 <;> cases g1 <;> simp_all
 have C5 := jd c5
 clear c2 hgg c1 c5
 rcases hgs with rfl | ⟨rfl, rfl⟩
 · go_enter Tryz.func80, Tryz.ntmps80
   have f0 := lk S 0 0 rfl rfl
   have f1 := lk S 0 1 rfl rfl
   have f2 := lk S 0 2 rfl rfl
   have f3 := lk S 0 3 rfl rfl
   go_wp2_with (go_at_call 115; refine (i_TimeOk_yes x2 _ C1.out).mono ?_; rintro e w' ⟨rfl, rfl⟩)
   generalize w.alloc (.cells #[.int .i64 x0, .int .i64 x1, .int .i64 x2, .slice A n cc] 46) = w1 at *
   have hrd := HH.out.keep (c.mono hB)
   have hbs := Nat.le_trans hB c.size
   cases c4 : seenB l
   case false =>
    have HV := jd (show false = headOkB ⟨x0, x1, x2, l⟩ from (Bool.eq_false_iff.2 fun h9 => by have h9 := (headOkB_mkI x0 x1 x2 l).1 h9; rw [h9.2.2.2.2.1] at c4; cases c4).symm)
    refine wp_region_cls (fun v => v.cell? ⟨w.heap.size, 0, none⟩ = some (.int .i64 x0) ∧ v.cell? ⟨w.heap.size, 1, none⟩ = some (.int .i64 x1) ∧ v.cell? ⟨w.heap.size, 2, none⟩ = some (.int .i64 x2) ∧ v.cell? ⟨w.heap.size, 3, none⟩ = some (.slice A n cc) ∧ Rd v B [mrkD l] [.slice A n cc] ∧ B ≤ v.heap.size) (by kernel_rfl) (by kernel_rfl) (fun v hv => ⟨cq hv f0, cq hv f1, cq hv f2, cq hv f3, hrd.keep (hv.mono hbs), Nat.le_trans hbs hv.size⟩) ?_
    intro CL HF HC
    repeat
     (first
        | go_big_quiet_skip
        | (go_big_quiet_want
           go_big_quiet_op
           first
            | go_big_quiet_on
            | (apply Exists.intro
               refine ⟨fun v hv => ?_, ?_⟩
               · obtain ⟨a0, a1, a2, a3, a4, a5⟩ := HF v hv
                 first
                  | (go_at_call 116; exact Calls.cls HC hv (iSeen_any A n cc B l v a4 a5 hs) (congrArg Value.bool c4))
                  | exact rfl
                  | (go_simp; exact rfl)
                  | (go_simp; exact ⟨rfl, hv⟩)
               go_big_quiet_on)))
    refine wpQuiet_nil ?_
    intro w3 b3
    have CC := jd (c.trans (b3.mono c.size))
    clear S c hrd hbs b3 f0 f1 f2 f3
    go_wp2
    go_ret
    exact ⟨ret_bool HV.out, CC.out⟩
   case true =>
    obtain ⟨g5, hg5⟩ : ∃ g, (lastS l == x1) = g := ⟨_, rfl⟩
    have HV := jd (show g5 = headOkB ⟨x0, x1, x2, l⟩ by
     rw [Bool.eq_iff_iff, headOkB_mkI, ← hg5, beq_iff_eq]
     exact ⟨fun h9 => ⟨C5.out.1, C5.out.2, C1.out, HX.out, c4, h9⟩, fun h9 => h9.2.2.2.2.2⟩)
    refine wp_region_cls (fun v => v.cell? ⟨w.heap.size, 0, none⟩ = some (.int .i64 x0) ∧ v.cell? ⟨w.heap.size, 1, none⟩ = some (.int .i64 x1) ∧ v.cell? ⟨w.heap.size, 2, none⟩ = some (.int .i64 x2) ∧ v.cell? ⟨w.heap.size, 3, none⟩ = some (.slice A n cc) ∧ Rd v B [mrkD l] [.slice A n cc] ∧ B ≤ v.heap.size) (by kernel_rfl) (by kernel_rfl) (fun v hv => ⟨cq hv f0, cq hv f1, cq hv f2, cq hv f3, hrd.keep (hv.mono hbs), Nat.le_trans hbs hv.size⟩) ?_
    intro CL HF HC
    repeat
     (first
        | go_big_quiet_skip
        | (go_big_quiet_want
           go_big_quiet_op
           first
            | go_big_quiet_on
            | (apply Exists.intro
               refine ⟨fun v hv => ?_, ?_⟩
               · obtain ⟨a0, a1, a2, a3, a4, a5⟩ := HF v hv
                 first
                  | (go_at_call 116; exact Calls.cls HC hv (iSeen_any A n cc B l v a4 a5 hs) (congrArg Value.bool c4))
                  | (go_at_call 117; exact Calls.cls HC hv (iLastSeen_any A n cc B l v a4 a5 hs) rfl)
                  | exact rfl
                  | (go_simp; exact rfl)
                  | (go_simp; exact ⟨rfl, hv⟩)
               go_big_quiet_on)))
    refine wpQuiet_nil ?_
    intro w3 b3
    have CC := jd (c.trans (b3.mono c.size))
    clear S c hrd hbs b3 f0 f1 f2 f3
    go_wp2
    go_ret
    exact ⟨ret_bool HV.out, CC.out⟩
 · go_enter Tryz.func80, Tryz.ntmps80
   have f0 := lk S 0 0 rfl rfl
   have f1 := lk S 0 1 rfl rfl
   have f2 := lk S 0 2 rfl rfl
   have f3 := lk S 0 3 rfl rfl
   go_wp2_with (go_at_call 115; refine (i_TimeOk_yes x2 _ C1.out).mono ?_; rintro e w' ⟨rfl, rfl⟩)
   generalize w.alloc (.cells #[.int .i64 x0, .int .i64 x1, .int .i64 x2, .slice A n cc] 46) = w1 at *
   have hrd := HH.out.keep (c.mono hB)
   have hbs := Nat.le_trans hB c.size
   cases c4 : seenB l
   case false =>
    have HV := jd (show false = headOkB ⟨x0, x1, x2, l⟩ from (Bool.eq_false_iff.2 fun h9 => by have h9 := (headOkB_mkI x0 x1 x2 l).1 h9; rw [h9.2.2.2.2.1] at c4; cases c4).symm)
    refine wp_region_cls (fun v => v.cell? ⟨w.heap.size, 0, none⟩ = some (.int .i64 x0) ∧ v.cell? ⟨w.heap.size, 1, none⟩ = some (.int .i64 x1) ∧ v.cell? ⟨w.heap.size, 2, none⟩ = some (.int .i64 x2) ∧ v.cell? ⟨w.heap.size, 3, none⟩ = some (.slice A n cc) ∧ Rd v B [mrkD l] [.slice A n cc] ∧ B ≤ v.heap.size) (by kernel_rfl) (by kernel_rfl) (fun v hv => ⟨cq hv f0, cq hv f1, cq hv f2, cq hv f3, hrd.keep (hv.mono hbs), Nat.le_trans hbs hv.size⟩) ?_
    intro CL HF HC
    repeat
     (first
        | go_big_quiet_skip
        | (go_big_quiet_want
           go_big_quiet_op
           first
            | go_big_quiet_on
            | (apply Exists.intro
               refine ⟨fun v hv => ?_, ?_⟩
               · obtain ⟨a0, a1, a2, a3, a4, a5⟩ := HF v hv
                 first
                  | (go_at_call 116; exact Calls.cls HC hv (iSeen_any A n cc B l v a4 a5 hs) (congrArg Value.bool c4))
                  | exact rfl
                  | (go_simp; exact rfl)
                  | (go_simp; exact ⟨rfl, hv⟩)
               go_big_quiet_on)))
    refine wpQuiet_nil ?_
    intro w3 b3
    have CC := jd (c.trans (b3.mono c.size))
    clear S c hrd hbs b3 f0 f1 f2 f3
    go_wp2
    go_ret
    exact ⟨ret_bool HV.out, CC.out⟩
   case true =>
    obtain ⟨g5, hg5⟩ : ∃ g, (lastS l == x1) = g := ⟨_, rfl⟩
    have HV := jd (show g5 = headOkB ⟨x0, x1, x2, l⟩ by
     rw [Bool.eq_iff_iff, headOkB_mkI, ← hg5, beq_iff_eq]
     exact ⟨fun h9 => ⟨C5.out.1, C5.out.2, C1.out, HX.out, c4, h9⟩, fun h9 => h9.2.2.2.2.2⟩)
    refine wp_region_cls (fun v => v.cell? ⟨w.heap.size, 0, none⟩ = some (.int .i64 x0) ∧ v.cell? ⟨w.heap.size, 1, none⟩ = some (.int .i64 x1) ∧ v.cell? ⟨w.heap.size, 2, none⟩ = some (.int .i64 x2) ∧ v.cell? ⟨w.heap.size, 3, none⟩ = some (.slice A n cc) ∧ Rd v B [mrkD l] [.slice A n cc] ∧ B ≤ v.heap.size) (by kernel_rfl) (by kernel_rfl) (fun v hv => ⟨cq hv f0, cq hv f1, cq hv f2, cq hv f3, hrd.keep (hv.mono hbs), Nat.le_trans hbs hv.size⟩) ?_
    intro CL HF HC
    repeat
     (first
        | go_big_quiet_skip
        | (go_big_quiet_want
           go_big_quiet_op
           first
            | go_big_quiet_on
            | (apply Exists.intro
               refine ⟨fun v hv => ?_, ?_⟩
               · obtain ⟨a0, a1, a2, a3, a4, a5⟩ := HF v hv
                 first
                  | (go_at_call 116; exact Calls.cls HC hv (iSeen_any A n cc B l v a4 a5 hs) (congrArg Value.bool c4))
                  | (go_at_call 117; exact Calls.cls HC hv (iLastSeen_any A n cc B l v a4 a5 hs) rfl)
                  | exact rfl
                  | (go_simp; exact rfl)
                  | (go_simp; exact ⟨rfl, hv⟩)
               go_big_quiet_on)))
    refine wpQuiet_nil ?_
    intro w3 b3
    have CC := jd (c.trans (b3.mono c.size))
    clear S c hrd hbs b3 f0 f1 f2 f3
    go_wp2
    go_ret
    exact ⟨ret_bool HV.out, CC.out⟩
theorem iHeadOk_c : CHeadOk 80 := fun x0 x1 x2 A n cc l w h hs => iHeadOk_any x0 x1 x2 A n cc _ l w h (Nat.le_refl _) hs
theorem iKeptOk_c : CKeptOk 79 := fun Aa0 na0 ca0 Aa1 na1 ca1 Aa2 na2 ca2 Aa3 na3 ca3 t w h hs => iKeptOk_any Aa0 na0 ca0 Aa1 na1 ca1 Aa2 na2 ca2 Aa3 na3 ca3 t _ w h (Nat.le_refl _) hs
theorem iBookOk_c : CBookOk 81 := fun x0 x1 A n cc l w h hs => iBookOk_any x0 x1 A n cc _ l w h (Nat.le_refl _) hs
theorem iLastOf_c : CLastOf 84 := fun x0 x1 A n cc l w h hs => iLastOf_any x0 x1 A n cc _ l w h (Nat.le_refl _) hs
end Go.Proofs.YthjjdelpdiipdaaGreatDoor
