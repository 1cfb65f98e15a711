/- Parts of my texts: HeadS1 HeadS2. -/
import Derived.Test.YtecihkkagpbkdaaK9
import Derived.Test.YtecihkkagpbkdaaK13
namespace Go.Proofs.Ytecihkkagpbkdaa
set_option maxRecDepth 100000
set_option linter.unusedVariables false
open Go.RowKit
theorem headOkB_mk (x0 x1 x2 : Int) (l : List MarkM) : headOkB ⟨x0, x1, x2, l⟩ = true ↔ (0 ≤ x1 ∧ x1 ≤ 2000) ∧ (0 ≤ x0 ∧ x0 ≤ x1) ∧ (0 ≤ x2 ∧ x2 ≤ 1000000) ∧ (0 < x1 ∨ x2 = 0) ∧ seenB l = true ∧ lastS l = x1 := headOkB_iff _
theorem in_atH (x a b : Int) (w : World) : Calls Try.prog 97 #[.int .i64 x, .int .i64 a, .int .i64 b] w fun e w' => e = .returned (.bool (inB x a b)) ∧ Below w.heap.size w w' := by
 refine (in_any x a b w).mono ?_
 rintro e w' ⟨rfl, rfl⟩
 exact ⟨rfl, Below.refl _ _⟩
theorem time_at (x : Int) (w : World) : Calls Try.prog 85 #[.int .i64 x] w fun e w' => e = .returned (.bool (inB x 0 1000000)) ∧ Below w.heap.size w w' := by
 by_cases h : 0 ≤ x ∧ x ≤ 1000000
 · refine (TimeOk_yes x w h).mono ?_
   rintro e w' ⟨rfl, rfl⟩
   exact ⟨ret_bool ((inB_iff _ _ _).2 h).symm, Below.refl _ _⟩
 · refine (TimeOk_no x w h).mono ?_
   rintro e w' ⟨rfl, rfl⟩
   exact ⟨ret_bool (Bool.eq_false_iff.2 fun h9 => h ((inB_iff _ _ _).1 h9)).symm, Below.refl _ _⟩
set_option maxHeartbeats 12800000 in
theorem sHeadOk_any (x0 x1 x2 : Int) (A : Option Addr) (n cc B : Nat) (l : List MarkM) (w : World) (h : Rd w B [mrkD l] [.slice A n cc]) (hB : B ≤ w.heap.size) (hs : mrkSz l ≤ 1048577) :
    Calls Try.prog 53 #[.agg #[.int .i64 x0, .int .i64 x1, .int .i64 x2, .slice A n cc]] w fun e w' => e = .returned (.bool (headOkB ⟨x0, x1, x2, l⟩)) ∧ Below w.heap.size w w' := by
 have HH := jd h
 clear h
 have S := Sep.nil w w.heap.size
 have c := Below.refl w.heap.size w
 replace S := S.boxAt c.size (w.heap.size) rfl #[.int .i64 x0, .int .i64 x1, .int .i64 x2, .slice A n cc] 59
 replace c := al c S
 have C := jd c
 cases c0 : inB x1 0 2000
 case false =>
  have C0 := jd c0
  have K0 : ∀ v, Calls Try.prog 97 #[.int .i64 x1, .int .i64 0, .int .i64 2000] v fun e w' => e = .returned (.bool false) ∧ Below v.heap.size v w' := fun v => by have h9 := in_atH x1 0 2000 v; rw [C0.out] at h9; exact h9
  have HV := jd (show false = headOkB ⟨x0, x1, x2, l⟩ from (Bool.eq_false_iff.2 fun h9 => by have h9 := (headOkB_mk x0 x1 x2 l).1 h9; rw [(inB_iff _ _ _).2 h9.1] at c0; cases c0).symm)
  clear c0
  go_enter Try.func53, Try.ntmps53
  have f0 := lk S 0 0 rfl rfl
  have f1 := lk S 0 1 rfl rfl
  have f2 := lk S 0 2 rfl rfl
  have f3 := lk S 0 3 rfl rfl
  go_wp2_with fail
  generalize w.alloc (.cells #[.int .i64 x0, .int .i64 x1, .int .i64 x2, .slice A n cc] 59) = w1 at *
  have hrd := HH.out.keep (c.mono hB)
  have hbs := Nat.le_trans hB c.size
  refine wp_region_cls (fun v => v.cell? ⟨w.heap.size, 0, none⟩ = some (.int .i64 x0) ∧ v.cell? ⟨w.heap.size, 1, none⟩ = some (.int .i64 x1) ∧ v.cell? ⟨w.heap.size, 2, none⟩ = some (.int .i64 x2) ∧ v.cell? ⟨w.heap.size, 3, none⟩ = some (.slice A n cc) ∧ Rd v B [mrkD l] [.slice A n cc] ∧ B ≤ v.heap.size) (by kernel_rfl) (by kernel_rfl) (fun v hv => ⟨cq hv f0, cq hv f1, cq hv f2, cq hv f3, hrd.keep (hv.mono hbs), Nat.le_trans hbs hv.size⟩) ?_
  intro CL HF HC
  repeat
   (first
      | go_big_quiet_skip
      | (go_big_quiet_want
         go_big_quiet_op
         first
          | go_big_quiet_on
          | (apply Exists.intro
             refine ⟨fun v hv => ?_, ?_⟩
             · obtain ⟨a0, a1, a2, a3, a4, a5⟩ := HF v hv
               first
                | (go_at_call 97; with_reducible exact Calls.cls HC hv (K0 v) rfl)
                | exact rfl
                | (go_simp; exact rfl)
                | (go_simp; exact ⟨rfl, hv⟩)
             go_big_quiet_on)))
  refine wpQuiet_nil ?_
  intro w9 b9
  have CC := jd (c.trans (b9.mono c.size))
  clear S c b9 hrd hbs f0 f1 f2 f3
  go_wp2
  go_ret
  exact ⟨ret_bool HV.out, CC.out⟩
 case true =>
  have C0 := jd c0
  have K0 : ∀ v, Calls Try.prog 97 #[.int .i64 x1, .int .i64 0, .int .i64 2000] v fun e w' => e = .returned (.bool true) ∧ Below v.heap.size v w' := fun v => by have h9 := in_atH x1 0 2000 v; rw [C0.out] at h9; exact h9
  cases c1 : inB x0 0 x1
  case false =>
   have C1 := jd c1
   have K1 : ∀ v, Calls Try.prog 97 #[.int .i64 x0, .int .i64 0, .int .i64 x1] v fun e w' => e = .returned (.bool false) ∧ Below v.heap.size v w' := fun v => by have h9 := in_atH x0 0 x1 v; rw [C1.out] at h9; exact h9
   have HV := jd (show false = headOkB ⟨x0, x1, x2, l⟩ from (Bool.eq_false_iff.2 fun h9 => by have h9 := (headOkB_mk x0 x1 x2 l).1 h9; rw [(inB_iff _ _ _).2 h9.2.1] at c1; cases c1).symm)
   clear c0 c1
   go_enter Try.func53, Try.ntmps53
   have f0 := lk S 0 0 rfl rfl
   have f1 := lk S 0 1 rfl rfl
   have f2 := lk S 0 2 rfl rfl
   have f3 := lk S 0 3 rfl rfl
   go_wp2_with fail
   generalize w.alloc (.cells #[.int .i64 x0, .int .i64 x1, .int .i64 x2, .slice A n cc] 59) = w1 at *
   have hrd := HH.out.keep (c.mono hB)
   have hbs := Nat.le_trans hB c.size
   refine wp_region_cls (fun v => v.cell? ⟨w.heap.size, 0, none⟩ = some (.int .i64 x0) ∧ v.cell? ⟨w.heap.size, 1, none⟩ = some (.int .i64 x1) ∧ v.cell? ⟨w.heap.size, 2, none⟩ = some (.int .i64 x2) ∧ v.cell? ⟨w.heap.size, 3, none⟩ = some (.slice A n cc) ∧ Rd v B [mrkD l] [.slice A n cc] ∧ B ≤ v.heap.size) (by kernel_rfl) (by kernel_rfl) (fun v hv => ⟨cq hv f0, cq hv f1, cq hv f2, cq hv f3, hrd.keep (hv.mono hbs), Nat.le_trans hbs hv.size⟩) ?_
   intro CL HF HC
   repeat
    (first
       | go_big_quiet_skip
       | (go_big_quiet_want
          go_big_quiet_op
          first
           | go_big_quiet_on
           | (apply Exists.intro
              refine ⟨fun v hv => ?_, ?_⟩
              · obtain ⟨a0, a1, a2, a3, a4, a5⟩ := HF v hv
                first
                 | (go_at_call 97; with_reducible exact Calls.cls HC hv (K0 v) rfl)
                 | (go_at_call 97; with_reducible exact Calls.cls HC hv (K1 v) rfl)
                 | exact rfl
                 | (go_simp; exact rfl)
                 | (go_simp; exact ⟨rfl, hv⟩)
              go_big_quiet_on)))
   refine wpQuiet_nil ?_
   intro w9 b9
   have CC := jd (c.trans (b9.mono c.size))
   clear S c b9 hrd hbs f0 f1 f2 f3
   go_wp2
   go_ret
   exact ⟨ret_bool HV.out, CC.out⟩
  case true =>
   have C1 := jd c1
   have K1 : ∀ v, Calls Try.prog 97 #[.int .i64 x0, .int .i64 0, .int .i64 x1] v fun e w' => e = .returned (.bool true) ∧ Below v.heap.size v w' := fun v => by have h9 := in_atH x0 0 x1 v; rw [C1.out] at h9; exact h9
   cases c2 : inB x2 0 1000000
   case false =>
    have C2 := jd c2
    have HV := jd (show false = headOkB ⟨x0, x1, x2, l⟩ from (Bool.eq_false_iff.2 fun h9 => by have h9 := (headOkB_mk x0 x1 x2 l).1 h9; rw [(inB_iff _ _ _).2 h9.2.2.1] at c2; cases c2).symm)
    clear c0 c1 c2
    go_enter Try.func53, Try.ntmps53
    have f0 := lk S 0 0 rfl rfl
    have f1 := lk S 0 1 rfl rfl
    have f2 := lk S 0 2 rfl rfl
    have f3 := lk S 0 3 rfl rfl
    go_wp2_with fail
    generalize w.alloc (.cells #[.int .i64 x0, .int .i64 x1, .int .i64 x2, .slice A n cc] 59) = w1 at *
    have hrd := HH.out.keep (c.mono hB)
    have hbs := Nat.le_trans hB c.size
    refine wp_region_cls (fun v => v.cell? ⟨w.heap.size, 0, none⟩ = some (.int .i64 x0) ∧ v.cell? ⟨w.heap.size, 1, none⟩ = some (.int .i64 x1) ∧ v.cell? ⟨w.heap.size, 2, none⟩ = some (.int .i64 x2) ∧ v.cell? ⟨w.heap.size, 3, none⟩ = some (.slice A n cc) ∧ Rd v B [mrkD l] [.slice A n cc] ∧ B ≤ v.heap.size) (by kernel_rfl) (by kernel_rfl) (fun v hv => ⟨cq hv f0, cq hv f1, cq hv f2, cq hv f3, hrd.keep (hv.mono hbs), Nat.le_trans hbs hv.size⟩) ?_
    intro CL HF HC
    repeat
     (first
        | go_big_quiet_skip
        | (go_big_quiet_want
           go_big_quiet_op
           first
            | go_big_quiet_on
            | (apply Exists.intro
               refine ⟨fun v hv => ?_, ?_⟩
               · obtain ⟨a0, a1, a2, a3, a4, a5⟩ := HF v hv
                 first
                  | (go_at_call 97; with_reducible exact Calls.cls HC hv (K0 v) rfl)
                  | (go_at_call 97; with_reducible exact Calls.cls HC hv (K1 v) rfl)
                  | (go_at_call 85; exact Calls.cls HC hv (time_at x2 v) (congrArg Value.bool C2.out))
                  | exact rfl
                  | (go_simp; exact rfl)
                  | (go_simp; exact ⟨rfl, hv⟩)
               go_big_quiet_on)))
    refine wpQuiet_nil ?_
    intro w9 b9
    have CC := jd (c.trans (b9.mono c.size))
    clear S c b9 hrd hbs f0 f1 f2 f3
    go_wp2
    go_ret
    exact ⟨ret_bool HV.out, CC.out⟩
   case true =>
    have C2 := jd c2
    by_cases q3 : 0 < x1
    case neg =>
     have d0 : decide (x1 > 0) = false := decide_eq_false (by omega)
     have d1 : decide (0 < x1) = false := decide_eq_false (by omega)
     by_cases q4 : x2 = 0
     case neg =>
      have d2 : (x2 == 0) = false := by simpa using q4
      have d3 : decide (x2 = 0) = false := decide_eq_false q4
      have HV := jd (show false = headOkB ⟨x0, x1, x2, l⟩ from (Bool.eq_false_iff.2 fun h9 => by have h9 := (headOkB_mk x0 x1 x2 l).1 h9; have := h9.2.2.2.1; omega).symm)
      clear c0 c1 c2 q3 q4
      go_enter Try.func53, Try.ntmps53
      have f0 := lk S 0 0 rfl rfl
      have f1 := lk S 0 1 rfl rfl
      have f2 := lk S 0 2 rfl rfl
      have f3 := lk S 0 3 rfl rfl
      go_wp2_with fail
      generalize w.alloc (.cells #[.int .i64 x0, .int .i64 x1, .int .i64 x2, .slice A n cc] 59) = w1 at *
      have hrd := HH.out.keep (c.mono hB)
      have hbs := Nat.le_trans hB c.size
      refine wp_region_cls (fun v => v.cell? ⟨w.heap.size, 0, none⟩ = some (.int .i64 x0) ∧ v.cell? ⟨w.heap.size, 1, none⟩ = some (.int .i64 x1) ∧ v.cell? ⟨w.heap.size, 2, none⟩ = some (.int .i64 x2) ∧ v.cell? ⟨w.heap.size, 3, none⟩ = some (.slice A n cc) ∧ Rd v B [mrkD l] [.slice A n cc] ∧ B ≤ v.heap.size) (by kernel_rfl) (by kernel_rfl) (fun v hv => ⟨cq hv f0, cq hv f1, cq hv f2, cq hv f3, hrd.keep (hv.mono hbs), Nat.le_trans hbs hv.size⟩) ?_
      intro CL HF HC
      repeat
       (first
          | go_big_quiet_skip
          | (go_big_quiet_want
             go_big_quiet_op
             first
              | go_big_quiet_on
              | (apply Exists.intro
                 refine ⟨fun v hv => ?_, ?_⟩
                 · obtain ⟨a0, a1, a2, a3, a4, a5⟩ := HF v hv
                   first
                    | (go_at_call 97; with_reducible exact Calls.cls HC hv (K0 v) rfl)
                    | (go_at_call 97; with_reducible exact Calls.cls HC hv (K1 v) rfl)
                    | (go_at_call 85; exact Calls.cls HC hv (time_at x2 v) (congrArg Value.bool C2.out))
                    | exact rfl
                    | (go_simp; exact rfl)
                    | (go_simp; exact ⟨rfl, hv⟩)
                 go_big_quiet_on)))
      refine wpQuiet_nil ?_
      intro w9 b9
      have CC := jd (c.trans (b9.mono c.size))
      clear S c b9 hrd hbs f0 f1 f2 f3
      go_wp2
      go_ret
      exact ⟨ret_bool HV.out, CC.out⟩
     case pos =>
      have d2 : (x2 == 0) = true := by simpa using q4
      have HQ := jd (show 0 < x1 ∨ x2 = 0 from Or.inr q4)
      clear q3 q4
      cases c4 : seenB l
      case false =>
       have C4 := jd c4
       have HV := jd (show false = headOkB ⟨x0, x1, x2, l⟩ from (Bool.eq_false_iff.2 fun h9 => by have h9 := (headOkB_mk x0 x1 x2 l).1 h9; rw [h9.2.2.2.2.1] at c4; cases c4).symm)
       clear c0 c1 c2 c4
       go_enter Try.func53, Try.ntmps53
       have f0 := lk S 0 0 rfl rfl
       have f1 := lk S 0 1 rfl rfl
       have f2 := lk S 0 2 rfl rfl
       have f3 := lk S 0 3 rfl rfl
       go_wp2_with fail
       generalize w.alloc (.cells #[.int .i64 x0, .int .i64 x1, .int .i64 x2, .slice A n cc] 59) = w1 at *
       have hrd := HH.out.keep (c.mono hB)
       have hbs := Nat.le_trans hB c.size
       refine wp_region_cls (fun v => v.cell? ⟨w.heap.size, 0, none⟩ = some (.int .i64 x0) ∧ v.cell? ⟨w.heap.size, 1, none⟩ = some (.int .i64 x1) ∧ v.cell? ⟨w.heap.size, 2, none⟩ = some (.int .i64 x2) ∧ v.cell? ⟨w.heap.size, 3, none⟩ = some (.slice A n cc) ∧ Rd v B [mrkD l] [.slice A n cc] ∧ B ≤ v.heap.size) (by kernel_rfl) (by kernel_rfl) (fun v hv => ⟨cq hv f0, cq hv f1, cq hv f2, cq hv f3, hrd.keep (hv.mono hbs), Nat.le_trans hbs hv.size⟩) ?_
       intro CL HF HC
       repeat
        (first
           | go_big_quiet_skip
           | (go_big_quiet_want
              go_big_quiet_op
              first
               | go_big_quiet_on
               | (apply Exists.intro
                  refine ⟨fun v hv => ?_, ?_⟩
                  · obtain ⟨a0, a1, a2, a3, a4, a5⟩ := HF v hv
                    first
                     | (go_at_call 97; with_reducible exact Calls.cls HC hv (K0 v) rfl)
                     | (go_at_call 97; with_reducible exact Calls.cls HC hv (K1 v) rfl)
                     | (go_at_call 85; exact Calls.cls HC hv (time_at x2 v) (congrArg Value.bool C2.out))
                     | (go_at_call 98; exact Calls.cls HC hv (sSeen_any A n cc B l v a4 a5 hs) (congrArg Value.bool C4.out))
                     | exact rfl
                     | (go_simp; exact rfl)
                     | (go_simp; exact ⟨rfl, hv⟩)
                  go_big_quiet_on)))
       refine wpQuiet_nil ?_
       intro w9 b9
       have CC := jd (c.trans (b9.mono c.size))
       clear S c b9 hrd hbs f0 f1 f2 f3
       go_wp2
       go_ret
       exact ⟨ret_bool HV.out, CC.out⟩
      case true =>
       have C4 := jd c4
       obtain ⟨g5, hg5⟩ : ∃ g, (lastS l == x1) = g := ⟨_, rfl⟩
       have HV := jd (show g5 = headOkB ⟨x0, x1, x2, l⟩ by
        rw [Bool.eq_iff_iff, headOkB_mk, ← hg5, beq_iff_eq]
        exact ⟨fun h9 => ⟨(inB_iff _ _ _).1 c0, (inB_iff _ _ _).1 c1, (inB_iff _ _ _).1 c2, HQ.out, c4, h9⟩, fun h9 => h9.2.2.2.2.2⟩)
       clear c0 c1 c2 c4
       go_enter Try.func53, Try.ntmps53
       have f0 := lk S 0 0 rfl rfl
       have f1 := lk S 0 1 rfl rfl
       have f2 := lk S 0 2 rfl rfl
       have f3 := lk S 0 3 rfl rfl
       go_wp2_with fail
       generalize w.alloc (.cells #[.int .i64 x0, .int .i64 x1, .int .i64 x2, .slice A n cc] 59) = w1 at *
       have hrd := HH.out.keep (c.mono hB)
       have hbs := Nat.le_trans hB c.size
       refine wp_region_cls (fun v => v.cell? ⟨w.heap.size, 0, none⟩ = some (.int .i64 x0) ∧ v.cell? ⟨w.heap.size, 1, none⟩ = some (.int .i64 x1) ∧ v.cell? ⟨w.heap.size, 2, none⟩ = some (.int .i64 x2) ∧ v.cell? ⟨w.heap.size, 3, none⟩ = some (.slice A n cc) ∧ Rd v B [mrkD l] [.slice A n cc] ∧ B ≤ v.heap.size) (by kernel_rfl) (by kernel_rfl) (fun v hv => ⟨cq hv f0, cq hv f1, cq hv f2, cq hv f3, hrd.keep (hv.mono hbs), Nat.le_trans hbs hv.size⟩) ?_
       intro CL HF HC
       repeat
        (first
           | go_big_quiet_skip
           | (go_big_quiet_want
              go_big_quiet_op
              first
               | go_big_quiet_on
               | (apply Exists.intro
                  refine ⟨fun v hv => ?_, ?_⟩
                  · obtain ⟨a0, a1, a2, a3, a4, a5⟩ := HF v hv
                    first
                     | (go_at_call 97; with_reducible exact Calls.cls HC hv (K0 v) rfl)
                     | (go_at_call 97; with_reducible exact Calls.cls HC hv (K1 v) rfl)
                     | (go_at_call 85; exact Calls.cls HC hv (time_at x2 v) (congrArg Value.bool C2.out))
                     | (go_at_call 98; exact Calls.cls HC hv (sSeen_any A n cc B l v a4 a5 hs) (congrArg Value.bool C4.out))
                     | (go_at_call 99; exact Calls.cls HC hv (sLastS_any A n cc B l v a4 a5 hs) rfl)
                     | exact rfl
                     | (go_simp; exact rfl)
                     | (go_simp; exact ⟨rfl, hv⟩)
                  go_big_quiet_on)))
       refine wpQuiet_nil ?_
       intro w9 b9
       have CC := jd (c.trans (b9.mono c.size))
       clear S c b9 hrd hbs f0 f1 f2 f3
       go_wp2
       go_ret
       exact ⟨ret_bool HV.out, CC.out⟩
    case pos =>
     have d0 : decide (x1 > 0) = true := decide_eq_true (by omega)
     have d1 : decide (0 < x1) = true := decide_eq_true (by omega)
     have HQ := jd (show 0 < x1 ∨ x2 = 0 from Or.inl q3)
     clear q3
     cases c4 : seenB l
     case false =>
      have C4 := jd c4
      have HV := jd (show false = headOkB ⟨x0, x1, x2, l⟩ from (Bool.eq_false_iff.2 fun h9 => by have h9 := (headOkB_mk x0 x1 x2 l).1 h9; rw [h9.2.2.2.2.1] at c4; cases c4).symm)
      clear c0 c1 c2 c4
      go_enter Try.func53, Try.ntmps53
      have f0 := lk S 0 0 rfl rfl
      have f1 := lk S 0 1 rfl rfl
      have f2 := lk S 0 2 rfl rfl
      have f3 := lk S 0 3 rfl rfl
      go_wp2_with fail
      generalize w.alloc (.cells #[.int .i64 x0, .int .i64 x1, .int .i64 x2, .slice A n cc] 59) = w1 at *
      have hrd := HH.out.keep (c.mono hB)
      have hbs := Nat.le_trans hB c.size
      refine wp_region_cls (fun v => v.cell? ⟨w.heap.size, 0, none⟩ = some (.int .i64 x0) ∧ v.cell? ⟨w.heap.size, 1, none⟩ = some (.int .i64 x1) ∧ v.cell? ⟨w.heap.size, 2, none⟩ = some (.int .i64 x2) ∧ v.cell? ⟨w.heap.size, 3, none⟩ = some (.slice A n cc) ∧ Rd v B [mrkD l] [.slice A n cc] ∧ B ≤ v.heap.size) (by kernel_rfl) (by kernel_rfl) (fun v hv => ⟨cq hv f0, cq hv f1, cq hv f2, cq hv f3, hrd.keep (hv.mono hbs), Nat.le_trans hbs hv.size⟩) ?_
      intro CL HF HC
      repeat
       (first
          | go_big_quiet_skip
          | (go_big_quiet_want
             go_big_quiet_op
             first
              | go_big_quiet_on
              | (apply Exists.intro
                 refine ⟨fun v hv => ?_, ?_⟩
                 · obtain ⟨a0, a1, a2, a3, a4, a5⟩ := HF v hv
                   first
                    | (go_at_call 97; with_reducible exact Calls.cls HC hv (K0 v) rfl)
                    | (go_at_call 97; with_reducible exact Calls.cls HC hv (K1 v) rfl)
                    | (go_at_call 85; exact Calls.cls HC hv (time_at x2 v) (congrArg Value.bool C2.out))
                    | (go_at_call 98; exact Calls.cls HC hv (sSeen_any A n cc B l v a4 a5 hs) (congrArg Value.bool C4.out))
                    | exact rfl
                    | (go_simp; exact rfl)
                    | (go_simp; exact ⟨rfl, hv⟩)
                 go_big_quiet_on)))
      refine wpQuiet_nil ?_
      intro w9 b9
      have CC := jd (c.trans (b9.mono c.size))
      clear S c b9 hrd hbs f0 f1 f2 f3
      go_wp2
      go_ret
      exact ⟨ret_bool HV.out, CC.out⟩
     case true =>
      have C4 := jd c4
      obtain ⟨g5, hg5⟩ : ∃ g, (lastS l == x1) = g := ⟨_, rfl⟩
      have HV := jd (show g5 = headOkB ⟨x0, x1, x2, l⟩ by
       rw [Bool.eq_iff_iff, headOkB_mk, ← hg5, beq_iff_eq]
       exact ⟨fun h9 => ⟨(inB_iff _ _ _).1 c0, (inB_iff _ _ _).1 c1, (inB_iff _ _ _).1 c2, HQ.out, c4, h9⟩, fun h9 => h9.2.2.2.2.2⟩)
      clear c0 c1 c2 c4
      go_enter Try.func53, Try.ntmps53
      have f0 := lk S 0 0 rfl rfl
      have f1 := lk S 0 1 rfl rfl
      have f2 := lk S 0 2 rfl rfl
      have f3 := lk S 0 3 rfl rfl
      go_wp2_with fail
      generalize w.alloc (.cells #[.int .i64 x0, .int .i64 x1, .int .i64 x2, .slice A n cc] 59) = w1 at *
      have hrd := HH.out.keep (c.mono hB)
      have hbs := Nat.le_trans hB c.size
      refine wp_region_cls (fun v => v.cell? ⟨w.heap.size, 0, none⟩ = some (.int .i64 x0) ∧ v.cell? ⟨w.heap.size, 1, none⟩ = some (.int .i64 x1) ∧ v.cell? ⟨w.heap.size, 2, none⟩ = some (.int .i64 x2) ∧ v.cell? ⟨w.heap.size, 3, none⟩ = some (.slice A n cc) ∧ Rd v B [mrkD l] [.slice A n cc] ∧ B ≤ v.heap.size) (by kernel_rfl) (by kernel_rfl) (fun v hv => ⟨cq hv f0, cq hv f1, cq hv f2, cq hv f3, hrd.keep (hv.mono hbs), Nat.le_trans hbs hv.size⟩) ?_
      intro CL HF HC
      repeat
       (first
          | go_big_quiet_skip
          | (go_big_quiet_want
             go_big_quiet_op
             first
              | go_big_quiet_on
              | (apply Exists.intro
                 refine ⟨fun v hv => ?_, ?_⟩
                 · obtain ⟨a0, a1, a2, a3, a4, a5⟩ := HF v hv
                   first
                    | (go_at_call 97; with_reducible exact Calls.cls HC hv (K0 v) rfl)
                    | (go_at_call 97; with_reducible exact Calls.cls HC hv (K1 v) rfl)
                    | (go_at_call 85; exact Calls.cls HC hv (time_at x2 v) (congrArg Value.bool C2.out))
                    | (go_at_call 98; exact Calls.cls HC hv (sSeen_any A n cc B l v a4 a5 hs) (congrArg Value.bool C4.out))
                    | (go_at_call 99; exact Calls.cls HC hv (sLastS_any A n cc B l v a4 a5 hs) rfl)
                    | exact rfl
                    | (go_simp; exact rfl)
                    | (go_simp; exact ⟨rfl, hv⟩)
                 go_big_quiet_on)))
      refine wpQuiet_nil ?_
      intro w9 b9
      have CC := jd (c.trans (b9.mono c.size))
      clear S c b9 hrd hbs f0 f1 f2 f3
      go_wp2
      go_ret
      exact ⟨ret_bool HV.out, CC.out⟩
set_option maxHeartbeats 3200000 in
theorem sSlotOf_any (x : Int) (w : World) : Calls Try.prog 46 #[.int .i64 x] w fun e w' => e = .returned (.int .i64 (slotOfM x)) ∧ Below w.heap.size w w' := by
 by_cases h : 1 ≤ x ∧ x ≤ 2000
 · have H := jd h
   have ht : x.tmod 20 = x % 20 := Int.tmod_eq_emod_of_nonneg (by omega)
   have hw0 : IntKind.i64.wrap (x % 20) = x % 20 := by rw [IntKind.wrap_i64]; omega
   have hw : IntKind.i64.wrap (2 + x % 20) = 2 + x % 20 := by rw [IntKind.wrap_i64]; omega
   have HV := jd (show slotOfM x = 2 + x % 20 by unfold slotOfM; rw [if_pos ((inB_iff _ _ _).2 h)])
   clear h
   go_enter Try.func46, Try.ntmps46
   go_wp2_with (first | (go_at_call 84; refine (l7Index_yes x _ H.out).mono ?_; rintro e w' ⟨rfl, rfl⟩))
   go_ret
   exact ⟨ret_i64 HV.out.symm, Below.refl _ _⟩
 · have H := jd h
   have HV := jd (show slotOfM x = -1 by unfold slotOfM; rw [if_neg fun h9 => h ((inB_iff _ _ _).1 h9)])
   clear h
   go_enter Try.func46, Try.ntmps46
   go_wp2_with (first | (go_at_call 84; refine (l7Index_no x _ H.out).mono ?_; rintro e w' ⟨rfl, rfl⟩))
   go_ret
   exact ⟨ret_i64 HV.out.symm, Below.refl _ _⟩
set_option maxHeartbeats 3200000 in
theorem sKeptOk_any (Aa0 : Option Addr) (na0 ca0 : Nat) (Aa1 : Option Addr) (na1 ca1 : Nat) (Aa2 : Option Addr) (na2 ca2 : Nat) (Aa3 : Option Addr) (na3 ca3 : Nat) (t : TwoM) (B : Nat) (w : World) (h : Rd w B t.cells [.slice Aa0 na0 ca0, .slice Aa1 na1 ca1, .slice Aa2 na2 ca2, .slice Aa3 na3 ca3]) (hB : B ≤ w.heap.size) (hs : t.sz ≤ 1048577) :
    Calls Try.prog 9 #[.agg #[.slice Aa0 na0 ca0, .slice Aa1 na1 ca1, .slice Aa2 na2 ca2, .slice Aa3 na3 ca3]] w fun e w' => e = .returned (.bool (keptB t)) ∧ Below w.heap.size w w' := by
 have hn0 : t.a.kept.length = na0 := rdKeptLen h.halves.1
 have HH := jd h
 clear h
 have S := Sep.nil w w.heap.size
 have c := Below.refl w.heap.size w
 replace S := S.boxAt c.size (w.heap.size) rfl #[.slice Aa0 na0 ca0, .slice Aa1 na1 ca1, .slice Aa2 na2 ca2, .slice Aa3 na3 ca3] 34
 replace c := al c S
 go_enter Try.func9, Try.ntmps9
 have f0 := lk S 0 0 rfl rfl
 have f1 := lk S 0 1 rfl rfl
 have f2 := lk S 0 2 rfl rfl
 have f3 := lk S 0 3 rfl rfl
 go_wp2_with fail
 generalize w.alloc (.cells #[.slice Aa0 na0 ca0, .slice Aa1 na1 ca1, .slice Aa2 na2 ca2, .slice Aa3 na3 ca3] 34) = w1 at *
 refine (sTwoOk_any Aa0 na0 ca0 Aa1 na1 ca1 Aa2 na2 ca2 Aa3 na3 ca3 t B _ (HH.out.keep (c.mono hB)) (Nat.le_trans hB c.size) hs).mono ?_
 rintro e w2 ⟨rfl, b2⟩
 replace c := c.trans (b2.mono c.size)
 replace S := S.keep b2
 clear b2 f0 f1 f2 f3
 cases hok : twoOk t
 case false =>
  have HV := jd (show false = keptB t by unfold keptB; rw [hok]; rfl)
  have CC := jd c
  clear S c hok hn0
  go_wp2
  go_ret
  exact ⟨ret_bool HV.out, CC.out⟩
 case true =>
  obtain ⟨g5, hg5⟩ : ∃ g, ((na0 : Int) == 22) = g := ⟨_, rfl⟩
  have hg6 : decide ((na0 : Int) = 22) = g5 := by rw [← hg5]; rfl
  have HV := jd (show g5 = keptB t by
   unfold keptB
   rw [hok, ← hg5, Bool.true_and, hn0, Bool.eq_iff_iff, beq_iff_eq, decide_eq_true_eq]
   omega)
  clear hok hn0
  have f4 := lk S 0 0 rfl rfl
  have f5 := lk S 0 1 rfl rfl
  have f6 := lk S 0 2 rfl rfl
  have f7 := lk S 0 3 rfl rfl
  have CC := jd c
  clear S c
  go_wp2
  go_ret
  exact ⟨ret_bool HV.out, CC.out⟩
end Go.Proofs.Ytecihkkagpbkdaa
