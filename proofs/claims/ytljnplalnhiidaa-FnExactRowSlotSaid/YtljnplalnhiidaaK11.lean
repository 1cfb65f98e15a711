/- Parts of my texts: HeadS1. -/
import Derived.Test.YtljnplalnhiidaaK10
namespace Go.Proofs.Ytljnplalnhiidaa
set_option maxRecDepth 100000
set_option linter.unusedVariables false
open Go.RowKit
theorem headOkB_mk (x0 x1 x2 : Int) (l : List MarkM) : headOkB ⟨x0, x1, x2, l⟩ = true ↔ (0 ≤ x1 ∧ x1 ≤ 2000) ∧ (0 ≤ x0 ∧ x0 ≤ x1) ∧ (0 ≤ x2 ∧ x2 ≤ 1000000) ∧ (0 < x1 ∨ x2 = 0) ∧ seenB l = true ∧ lastS l = x1 := headOkB_iff _
theorem in_atH (x a b : Int) (w : World) : Calls Try.prog 33 #[.int .i64 x, .int .i64 a, .int .i64 b] w fun e w' => e = .returned (.bool (inB x a b)) ∧ Below w.heap.size w w' := by
 refine (in_any x a b w).mono ?_
 rintro e w' ⟨rfl, rfl⟩
 exact ⟨rfl, Below.refl _ _⟩
theorem time_at (x : Int) (w : World) : Calls Try.prog 34 #[.int .i64 x] w fun e w' => e = .returned (.bool (inB x 0 1000000)) ∧ Below w.heap.size w w' := by
 by_cases h : 0 ≤ x ∧ x ≤ 1000000
 · refine (TimeOk_yes x w h).mono ?_
   rintro e w' ⟨rfl, rfl⟩
   exact ⟨ret_bool ((inB_iff _ _ _).2 h).symm, Below.refl _ _⟩
 · refine (TimeOk_no x w h).mono ?_
   rintro e w' ⟨rfl, rfl⟩
   exact ⟨ret_bool (Bool.eq_false_iff.2 fun h9 => h ((inB_iff _ _ _).1 h9)).symm, Below.refl _ _⟩
set_option maxHeartbeats 12800000 in
theorem sHeadOk_any (x0 x1 x2 : Int) (A : Option Addr) (n cc B : Nat) (l : List MarkM) (w : World) (h : Rd w B [mrkD l] [.slice A n cc]) (hB : B ≤ w.heap.size) (hs : mrkSz l ≤ 1048577) :
    Calls Try.prog 10 #[.agg #[.int .i64 x0, .int .i64 x1, .int .i64 x2, .slice A n cc]] w fun e w' => e = .returned (.bool (headOkB ⟨x0, x1, x2, l⟩)) ∧ Below w.heap.size w w' := by
 have HH := jd h
 clear h
 have S := Sep.nil w w.heap.size
 have c := Below.refl w.heap.size w
 replace S := S.boxAt c.size (w.heap.size) rfl #[.int .i64 x0, .int .i64 x1, .int .i64 x2, .slice A n cc] 29
 replace c := al c S
 have C := jd c
 cases c0 : inB x1 0 2000
 case false =>
  have C0 := jd c0
  have K0 : ∀ v, Calls Try.prog 33 #[.int .i64 x1, .int .i64 0, .int .i64 2000] v fun e w' => e = .returned (.bool false) ∧ Below v.heap.size v w' := fun v => by have h9 := in_atH x1 0 2000 v; rw [C0.out] at h9; exact h9
  have HV := jd (show false = headOkB ⟨x0, x1, x2, l⟩ from (Bool.eq_false_iff.2 fun h9 => by have h9 := (headOkB_mk x0 x1 x2 l).1 h9; rw [(inB_iff _ _ _).2 h9.1] at c0; cases c0).symm)
  clear c0
  go_enter Try.func10, Try.ntmps10
  have f0 := lk S 0 0 rfl rfl
  have f1 := lk S 0 1 rfl rfl
  have f2 := lk S 0 2 rfl rfl
  have f3 := lk S 0 3 rfl rfl
  go_wp2_with fail
  generalize w.alloc (.cells #[.int .i64 x0, .int .i64 x1, .int .i64 x2, .slice A n cc] 29) = w1 at *
  have hrd := HH.out.keep (c.mono hB)
  have hbs := Nat.le_trans hB c.size
  refine wp_region_cls (fun v => v.cell? ⟨w.heap.size, 0, none⟩ = some (.int .i64 x0) ∧ v.cell? ⟨w.heap.size, 1, none⟩ = some (.int .i64 x1) ∧ v.cell? ⟨w.heap.size, 2, none⟩ = some (.int .i64 x2) ∧ v.cell? ⟨w.heap.size, 3, none⟩ = some (.slice A n cc) ∧ Rd v B [mrkD l] [.slice A n cc] ∧ B ≤ v.heap.size) (by kernel_rfl) (by kernel_rfl) (fun v hv => ⟨cq hv f0, cq hv f1, cq hv f2, cq hv f3, hrd.keep (hv.mono hbs), Nat.le_trans hbs hv.size⟩) ?_
  intro CL HF HC
  repeat
   (first
      | go_big_quiet_skip
      | (go_big_quiet_want
         go_big_quiet_op
         first
          | go_big_quiet_on
          | (apply Exists.intro
             refine ⟨fun v hv => ?_, ?_⟩
             · obtain ⟨a0, a1, a2, a3, a4, a5⟩ := HF v hv
               first
                | (go_at_call 33; with_reducible exact Calls.cls HC hv (K0 v) rfl)
                | exact rfl
                | (go_simp; exact rfl)
                | (go_simp; exact ⟨rfl, hv⟩)
             go_big_quiet_on)))
  refine wpQuiet_nil ?_
  intro w9 b9
  have CC := jd (c.trans (b9.mono c.size))
  clear S c b9 hrd hbs f0 f1 f2 f3
  go_wp2
  go_ret
  exact ⟨ret_bool HV.out, CC.out⟩
 case true =>
  have C0 := jd c0
  have K0 : ∀ v, Calls Try.prog 33 #[.int .i64 x1, .int .i64 0, .int .i64 2000] v fun e w' => e = .returned (.bool true) ∧ Below v.heap.size v w' := fun v => by have h9 := in_atH x1 0 2000 v; rw [C0.out] at h9; exact h9
  cases c1 : inB x0 0 x1
  case false =>
   have C1 := jd c1
   have K1 : ∀ v, Calls Try.prog 33 #[.int .i64 x0, .int .i64 0, .int .i64 x1] v fun e w' => e = .returned (.bool false) ∧ Below v.heap.size v w' := fun v => by have h9 := in_atH x0 0 x1 v; rw [C1.out] at h9; exact h9
   have HV := jd (show false = headOkB ⟨x0, x1, x2, l⟩ from (Bool.eq_false_iff.2 fun h9 => by have h9 := (headOkB_mk x0 x1 x2 l).1 h9; rw [(inB_iff _ _ _).2 h9.2.1] at c1; cases c1).symm)
   clear c0 c1
   go_enter Try.func10, Try.ntmps10
   have f0 := lk S 0 0 rfl rfl
   have f1 := lk S 0 1 rfl rfl
   have f2 := lk S 0 2 rfl rfl
   have f3 := lk S 0 3 rfl rfl
   go_wp2_with fail
   generalize w.alloc (.cells #[.int .i64 x0, .int .i64 x1, .int .i64 x2, .slice A n cc] 29) = w1 at *
   have hrd := HH.out.keep (c.mono hB)
   have hbs := Nat.le_trans hB c.size
   refine wp_region_cls (fun v => v.cell? ⟨w.heap.size, 0, none⟩ = some (.int .i64 x0) ∧ v.cell? ⟨w.heap.size, 1, none⟩ = some (.int .i64 x1) ∧ v.cell? ⟨w.heap.size, 2, none⟩ = some (.int .i64 x2) ∧ v.cell? ⟨w.heap.size, 3, none⟩ = some (.slice A n cc) ∧ Rd v B [mrkD l] [.slice A n cc] ∧ B ≤ v.heap.size) (by kernel_rfl) (by kernel_rfl) (fun v hv => ⟨cq hv f0, cq hv f1, cq hv f2, cq hv f3, hrd.keep (hv.mono hbs), Nat.le_trans hbs hv.size⟩) ?_
   intro CL HF HC
   repeat
    (first
       | go_big_quiet_skip
       | (go_big_quiet_want
          go_big_quiet_op
          first
           | go_big_quiet_on
           | (apply Exists.intro
              refine ⟨fun v hv => ?_, ?_⟩
              · obtain ⟨a0, a1, a2, a3, a4, a5⟩ := HF v hv
                first
                 | (go_at_call 33; with_reducible exact Calls.cls HC hv (K0 v) rfl)
                 | (go_at_call 33; with_reducible exact Calls.cls HC hv (K1 v) rfl)
                 | exact rfl
                 | (go_simp; exact rfl)
                 | (go_simp; exact ⟨rfl, hv⟩)
              go_big_quiet_on)))
   refine wpQuiet_nil ?_
   intro w9 b9
   have CC := jd (c.trans (b9.mono c.size))
   clear S c b9 hrd hbs f0 f1 f2 f3
   go_wp2
   go_ret
   exact ⟨ret_bool HV.out, CC.out⟩
  case true =>
   have C1 := jd c1
   have K1 : ∀ v, Calls Try.prog 33 #[.int .i64 x0, .int .i64 0, .int .i64 x1] v fun e w' => e = .returned (.bool true) ∧ Below v.heap.size v w' := fun v => by have h9 := in_atH x0 0 x1 v; rw [C1.out] at h9; exact h9
   cases c2 : inB x2 0 1000000
   case false =>
    have C2 := jd c2
    have HV := jd (show false = headOkB ⟨x0, x1, x2, l⟩ from (Bool.eq_false_iff.2 fun h9 => by have h9 := (headOkB_mk x0 x1 x2 l).1 h9; rw [(inB_iff _ _ _).2 h9.2.2.1] at c2; cases c2).symm)
    clear c0 c1 c2
    go_enter Try.func10, Try.ntmps10
    have f0 := lk S 0 0 rfl rfl
    have f1 := lk S 0 1 rfl rfl
    have f2 := lk S 0 2 rfl rfl
    have f3 := lk S 0 3 rfl rfl
    go_wp2_with fail
    generalize w.alloc (.cells #[.int .i64 x0, .int .i64 x1, .int .i64 x2, .slice A n cc] 29) = w1 at *
    have hrd := HH.out.keep (c.mono hB)
    have hbs := Nat.le_trans hB c.size
    refine wp_region_cls (fun v => v.cell? ⟨w.heap.size, 0, none⟩ = some (.int .i64 x0) ∧ v.cell? ⟨w.heap.size, 1, none⟩ = some (.int .i64 x1) ∧ v.cell? ⟨w.heap.size, 2, none⟩ = some (.int .i64 x2) ∧ v.cell? ⟨w.heap.size, 3, none⟩ = some (.slice A n cc) ∧ Rd v B [mrkD l] [.slice A n cc] ∧ B ≤ v.heap.size) (by kernel_rfl) (by kernel_rfl) (fun v hv => ⟨cq hv f0, cq hv f1, cq hv f2, cq hv f3, hrd.keep (hv.mono hbs), Nat.le_trans hbs hv.size⟩) ?_
    intro CL HF HC
    repeat
     (first
        | go_big_quiet_skip
        | (go_big_quiet_want
           go_big_quiet_op
           first
            | go_big_quiet_on
            | (apply Exists.intro
               refine ⟨fun v hv => ?_, ?_⟩
               · obtain ⟨a0, a1, a2, a3, a4, a5⟩ := HF v hv
                 first
                  | (go_at_call 33; with_reducible exact Calls.cls HC hv (K0 v) rfl)
                  | (go_at_call 33; with_reducible exact Calls.cls HC hv (K1 v) rfl)
                  | (go_at_call 34; exact Calls.cls HC hv (time_at x2 v) (congrArg Value.bool C2.out))
                  | exact rfl
                  | (go_simp; exact rfl)
                  | (go_simp; exact ⟨rfl, hv⟩)
               go_big_quiet_on)))
    refine wpQuiet_nil ?_
    intro w9 b9
    have CC := jd (c.trans (b9.mono c.size))
    clear S c b9 hrd hbs f0 f1 f2 f3
    go_wp2
    go_ret
    exact ⟨ret_bool HV.out, CC.out⟩
   case true =>
    have C2 := jd c2
    by_cases q3 : 0 < x1
    case neg =>
     have d0 : decide (x1 > 0) = false := decide_eq_false (by omega)
     have d1 : decide (0 < x1) = false := decide_eq_false (by omega)
     by_cases q4 : x2 = 0
     case neg =>
      have d2 : (x2 == 0) = false := by simpa using q4
      have d3 : decide (x2 = 0) = false := decide_eq_false q4
      have HV := jd (show false = headOkB ⟨x0, x1, x2, l⟩ from (Bool.eq_false_iff.2 fun h9 => by have h9 := (headOkB_mk x0 x1 x2 l).1 h9; have := h9.2.2.2.1; omega).symm)
      clear c0 c1 c2 q3 q4
      go_enter Try.func10, Try.ntmps10
      have f0 := lk S 0 0 rfl rfl
      have f1 := lk S 0 1 rfl rfl
      have f2 := lk S 0 2 rfl rfl
      have f3 := lk S 0 3 rfl rfl
      go_wp2_with fail
      generalize w.alloc (.cells #[.int .i64 x0, .int .i64 x1, .int .i64 x2, .slice A n cc] 29) = w1 at *
      have hrd := HH.out.keep (c.mono hB)
      have hbs := Nat.le_trans hB c.size
      refine wp_region_cls (fun v => v.cell? ⟨w.heap.size, 0, none⟩ = some (.int .i64 x0) ∧ v.cell? ⟨w.heap.size, 1, none⟩ = some (.int .i64 x1) ∧ v.cell? ⟨w.heap.size, 2, none⟩ = some (.int .i64 x2) ∧ v.cell? ⟨w.heap.size, 3, none⟩ = some (.slice A n cc) ∧ Rd v B [mrkD l] [.slice A n cc] ∧ B ≤ v.heap.size) (by kernel_rfl) (by kernel_rfl) (fun v hv => ⟨cq hv f0, cq hv f1, cq hv f2, cq hv f3, hrd.keep (hv.mono hbs), Nat.le_trans hbs hv.size⟩) ?_
      intro CL HF HC
      repeat
       (first
          | go_big_quiet_skip
          | (go_big_quiet_want
             go_big_quiet_op
             first
              | go_big_quiet_on
              | (apply Exists.intro
                 refine ⟨fun v hv => ?_, ?_⟩
                 · obtain ⟨a0, a1, a2, a3, a4, a5⟩ := HF v hv
                   first
                    | (go_at_call 33; with_reducible exact Calls.cls HC hv (K0 v) rfl)
                    | (go_at_call 33; with_reducible exact Calls.cls HC hv (K1 v) rfl)
                    | (go_at_call 34; exact Calls.cls HC hv (time_at x2 v) (congrArg Value.bool C2.out))
                    | exact rfl
                    | (go_simp; exact rfl)
                    | (go_simp; exact ⟨rfl, hv⟩)
                 go_big_quiet_on)))
      refine wpQuiet_nil ?_
      intro w9 b9
      have CC := jd (c.trans (b9.mono c.size))
      clear S c b9 hrd hbs f0 f1 f2 f3
      go_wp2
      go_ret
      exact ⟨ret_bool HV.out, CC.out⟩
     case pos =>
      have d2 : (x2 == 0) = true := by simpa using q4
      have HQ := jd (show 0 < x1 ∨ x2 = 0 from Or.inr q4)
      clear q3 q4
      cases c4 : seenB l
      case false =>
       have C4 := jd c4
       have HV := jd (show false = headOkB ⟨x0, x1, x2, l⟩ from (Bool.eq_false_iff.2 fun h9 => by have h9 := (headOkB_mk x0 x1 x2 l).1 h9; rw [h9.2.2.2.2.1] at c4; cases c4).symm)
       clear c0 c1 c2 c4
       go_enter Try.func10, Try.ntmps10
       have f0 := lk S 0 0 rfl rfl
       have f1 := lk S 0 1 rfl rfl
       have f2 := lk S 0 2 rfl rfl
       have f3 := lk S 0 3 rfl rfl
       go_wp2_with fail
       generalize w.alloc (.cells #[.int .i64 x0, .int .i64 x1, .int .i64 x2, .slice A n cc] 29) = w1 at *
       have hrd := HH.out.keep (c.mono hB)
       have hbs := Nat.le_trans hB c.size
       refine wp_region_cls (fun v => v.cell? ⟨w.heap.size, 0, none⟩ = some (.int .i64 x0) ∧ v.cell? ⟨w.heap.size, 1, none⟩ = some (.int .i64 x1) ∧ v.cell? ⟨w.heap.size, 2, none⟩ = some (.int .i64 x2) ∧ v.cell? ⟨w.heap.size, 3, none⟩ = some (.slice A n cc) ∧ Rd v B [mrkD l] [.slice A n cc] ∧ B ≤ v.heap.size) (by kernel_rfl) (by kernel_rfl) (fun v hv => ⟨cq hv f0, cq hv f1, cq hv f2, cq hv f3, hrd.keep (hv.mono hbs), Nat.le_trans hbs hv.size⟩) ?_
       intro CL HF HC
       repeat
        (first
           | go_big_quiet_skip
           | (go_big_quiet_want
              go_big_quiet_op
              first
               | go_big_quiet_on
               | (apply Exists.intro
                  refine ⟨fun v hv => ?_, ?_⟩
                  · obtain ⟨a0, a1, a2, a3, a4, a5⟩ := HF v hv
                    first
                     | (go_at_call 33; with_reducible exact Calls.cls HC hv (K0 v) rfl)
                     | (go_at_call 33; with_reducible exact Calls.cls HC hv (K1 v) rfl)
                     | (go_at_call 34; exact Calls.cls HC hv (time_at x2 v) (congrArg Value.bool C2.out))
                     | (go_at_call 35; exact Calls.cls HC hv (sSeen_any A n cc B l v a4 a5 hs) (congrArg Value.bool C4.out))
                     | exact rfl
                     | (go_simp; exact rfl)
                     | (go_simp; exact ⟨rfl, hv⟩)
                  go_big_quiet_on)))
       refine wpQuiet_nil ?_
       intro w9 b9
       have CC := jd (c.trans (b9.mono c.size))
       clear S c b9 hrd hbs f0 f1 f2 f3
       go_wp2
       go_ret
       exact ⟨ret_bool HV.out, CC.out⟩
      case true =>
       have C4 := jd c4
       obtain ⟨g5, hg5⟩ : ∃ g, (lastS l == x1) = g := ⟨_, rfl⟩
       have HV := jd (show g5 = headOkB ⟨x0, x1, x2, l⟩ by
        rw [Bool.eq_iff_iff, headOkB_mk, ← hg5, beq_iff_eq]
        exact ⟨fun h9 => ⟨(inB_iff _ _ _).1 c0, (inB_iff _ _ _).1 c1, (inB_iff _ _ _).1 c2, HQ.out, c4, h9⟩, fun h9 => h9.2.2.2.2.2⟩)
       clear c0 c1 c2 c4
       go_enter Try.func10, Try.ntmps10
       have f0 := lk S 0 0 rfl rfl
       have f1 := lk S 0 1 rfl rfl
       have f2 := lk S 0 2 rfl rfl
       have f3 := lk S 0 3 rfl rfl
       go_wp2_with fail
       generalize w.alloc (.cells #[.int .i64 x0, .int .i64 x1, .int .i64 x2, .slice A n cc] 29) = w1 at *
       have hrd := HH.out.keep (c.mono hB)
       have hbs := Nat.le_trans hB c.size
       refine wp_region_cls (fun v => v.cell? ⟨w.heap.size, 0, none⟩ = some (.int .i64 x0) ∧ v.cell? ⟨w.heap.size, 1, none⟩ = some (.int .i64 x1) ∧ v.cell? ⟨w.heap.size, 2, none⟩ = some (.int .i64 x2) ∧ v.cell? ⟨w.heap.size, 3, none⟩ = some (.slice A n cc) ∧ Rd v B [mrkD l] [.slice A n cc] ∧ B ≤ v.heap.size) (by kernel_rfl) (by kernel_rfl) (fun v hv => ⟨cq hv f0, cq hv f1, cq hv f2, cq hv f3, hrd.keep (hv.mono hbs), Nat.le_trans hbs hv.size⟩) ?_
       intro CL HF HC
       repeat
        (first
           | go_big_quiet_skip
           | (go_big_quiet_want
              go_big_quiet_op
              first
               | go_big_quiet_on
               | (apply Exists.intro
                  refine ⟨fun v hv => ?_, ?_⟩
                  · obtain ⟨a0, a1, a2, a3, a4, a5⟩ := HF v hv
                    first
                     | (go_at_call 33; with_reducible exact Calls.cls HC hv (K0 v) rfl)
                     | (go_at_call 33; with_reducible exact Calls.cls HC hv (K1 v) rfl)
                     | (go_at_call 34; exact Calls.cls HC hv (time_at x2 v) (congrArg Value.bool C2.out))
                     | (go_at_call 35; exact Calls.cls HC hv (sSeen_any A n cc B l v a4 a5 hs) (congrArg Value.bool C4.out))
                     | (go_at_call 36; exact Calls.cls HC hv (sLastS_any A n cc B l v a4 a5 hs) rfl)
                     | exact rfl
                     | (go_simp; exact rfl)
                     | (go_simp; exact ⟨rfl, hv⟩)
                  go_big_quiet_on)))
       refine wpQuiet_nil ?_
       intro w9 b9
       have CC := jd (c.trans (b9.mono c.size))
       clear S c b9 hrd hbs f0 f1 f2 f3
       go_wp2
       go_ret
       exact ⟨ret_bool HV.out, CC.out⟩
    case pos =>
     have d0 : decide (x1 > 0) = true := decide_eq_true (by omega)
     have d1 : decide (0 < x1) = true := decide_eq_true (by omega)
     have HQ := jd (show 0 < x1 ∨ x2 = 0 from Or.inl q3)
     clear q3
     cases c4 : seenB l
     case false =>
      have C4 := jd c4
      have HV := jd (show false = headOkB ⟨x0, x1, x2, l⟩ from (Bool.eq_false_iff.2 fun h9 => by have h9 := (headOkB_mk x0 x1 x2 l).1 h9; rw [h9.2.2.2.2.1] at c4; cases c4).symm)
      clear c0 c1 c2 c4
      go_enter Try.func10, Try.ntmps10
      have f0 := lk S 0 0 rfl rfl
      have f1 := lk S 0 1 rfl rfl
      have f2 := lk S 0 2 rfl rfl
      have f3 := lk S 0 3 rfl rfl
      go_wp2_with fail
      generalize w.alloc (.cells #[.int .i64 x0, .int .i64 x1, .int .i64 x2, .slice A n cc] 29) = w1 at *
      have hrd := HH.out.keep (c.mono hB)
      have hbs := Nat.le_trans hB c.size
      refine wp_region_cls (fun v => v.cell? ⟨w.heap.size, 0, none⟩ = some (.int .i64 x0) ∧ v.cell? ⟨w.heap.size, 1, none⟩ = some (.int .i64 x1) ∧ v.cell? ⟨w.heap.size, 2, none⟩ = some (.int .i64 x2) ∧ v.cell? ⟨w.heap.size, 3, none⟩ = some (.slice A n cc) ∧ Rd v B [mrkD l] [.slice A n cc] ∧ B ≤ v.heap.size) (by kernel_rfl) (by kernel_rfl) (fun v hv => ⟨cq hv f0, cq hv f1, cq hv f2, cq hv f3, hrd.keep (hv.mono hbs), Nat.le_trans hbs hv.size⟩) ?_
      intro CL HF HC
      repeat
       (first
          | go_big_quiet_skip
          | (go_big_quiet_want
             go_big_quiet_op
             first
              | go_big_quiet_on
              | (apply Exists.intro
                 refine ⟨fun v hv => ?_, ?_⟩
                 · obtain ⟨a0, a1, a2, a3, a4, a5⟩ := HF v hv
                   first
                    | (go_at_call 33; with_reducible exact Calls.cls HC hv (K0 v) rfl)
                    | (go_at_call 33; with_reducible exact Calls.cls HC hv (K1 v) rfl)
                    | (go_at_call 34; exact Calls.cls HC hv (time_at x2 v) (congrArg Value.bool C2.out))
                    | (go_at_call 35; exact Calls.cls HC hv (sSeen_any A n cc B l v a4 a5 hs) (congrArg Value.bool C4.out))
                    | exact rfl
                    | (go_simp; exact rfl)
                    | (go_simp; exact ⟨rfl, hv⟩)
                 go_big_quiet_on)))
      refine wpQuiet_nil ?_
      intro w9 b9
      have CC := jd (c.trans (b9.mono c.size))
      clear S c b9 hrd hbs f0 f1 f2 f3
      go_wp2
      go_ret
      exact ⟨ret_bool HV.out, CC.out⟩
     case true =>
      have C4 := jd c4
      obtain ⟨g5, hg5⟩ : ∃ g, (lastS l == x1) = g := ⟨_, rfl⟩
      have HV := jd (show g5 = headOkB ⟨x0, x1, x2, l⟩ by
       rw [Bool.eq_iff_iff, headOkB_mk, ← hg5, beq_iff_eq]
       exact ⟨fun h9 => ⟨(inB_iff _ _ _).1 c0, (inB_iff _ _ _).1 c1, (inB_iff _ _ _).1 c2, HQ.out, c4, h9⟩, fun h9 => h9.2.2.2.2.2⟩)
      clear c0 c1 c2 c4
      go_enter Try.func10, Try.ntmps10
      have f0 := lk S 0 0 rfl rfl
      have f1 := lk S 0 1 rfl rfl
      have f2 := lk S 0 2 rfl rfl
      have f3 := lk S 0 3 rfl rfl
      go_wp2_with fail
      generalize w.alloc (.cells #[.int .i64 x0, .int .i64 x1, .int .i64 x2, .slice A n cc] 29) = w1 at *
      have hrd := HH.out.keep (c.mono hB)
      have hbs := Nat.le_trans hB c.size
      refine wp_region_cls (fun v => v.cell? ⟨w.heap.size, 0, none⟩ = some (.int .i64 x0) ∧ v.cell? ⟨w.heap.size, 1, none⟩ = some (.int .i64 x1) ∧ v.cell? ⟨w.heap.size, 2, none⟩ = some (.int .i64 x2) ∧ v.cell? ⟨w.heap.size, 3, none⟩ = some (.slice A n cc) ∧ Rd v B [mrkD l] [.slice A n cc] ∧ B ≤ v.heap.size) (by kernel_rfl) (by kernel_rfl) (fun v hv => ⟨cq hv f0, cq hv f1, cq hv f2, cq hv f3, hrd.keep (hv.mono hbs), Nat.le_trans hbs hv.size⟩) ?_
      intro CL HF HC
      repeat
       (first
          | go_big_quiet_skip
          | (go_big_quiet_want
             go_big_quiet_op
             first
              | go_big_quiet_on
              | (apply Exists.intro
                 refine ⟨fun v hv => ?_, ?_⟩
                 · obtain ⟨a0, a1, a2, a3, a4, a5⟩ := HF v hv
                   first
                    | (go_at_call 33; with_reducible exact Calls.cls HC hv (K0 v) rfl)
                    | (go_at_call 33; with_reducible exact Calls.cls HC hv (K1 v) rfl)
                    | (go_at_call 34; exact Calls.cls HC hv (time_at x2 v) (congrArg Value.bool C2.out))
                    | (go_at_call 35; exact Calls.cls HC hv (sSeen_any A n cc B l v a4 a5 hs) (congrArg Value.bool C4.out))
                    | (go_at_call 36; exact Calls.cls HC hv (sLastS_any A n cc B l v a4 a5 hs) rfl)
                    | exact rfl
                    | (go_simp; exact rfl)
                    | (go_simp; exact ⟨rfl, hv⟩)
                 go_big_quiet_on)))
      refine wpQuiet_nil ?_
      intro w9 b9
      have CC := jd (c.trans (b9.mono c.size))
      clear S c b9 hrd hbs f0 f1 f2 f3
      go_wp2
      go_ret
      exact ⟨ret_bool HV.out, CC.out⟩
end Go.Proofs.Ytljnplalnhiidaa
