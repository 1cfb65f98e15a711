/- Parts of my texts: HeadS1 HeadS2 HeadS7 HeadSC BookSC OrdG. -/
import Derived.Test.YthjjdelpdiipdaaGreatDoorMX22
import Derived.Test.YthjjdelpdiipdaaGreatDoorMX24
import Derived.Test.YthjjdelpdiipdaaGreatDoorMX28
namespace Go.Proofs.YthjjdelpdiipdaaGreatDoor
set_option maxRecDepth 100000
set_option linter.unusedVariables false
open Go.RowKit
theorem headOkB_mk (x0 x1 x2 : Int) (l : List MarkM) : headOkB ⟨x0, x1, x2, l⟩ = true ↔ (0 ≤ x1 ∧ x1 ≤ 2000) ∧ (0 ≤ x0 ∧ x0 ≤ x1) ∧ (0 ≤ x2 ∧ x2 ≤ 1000000) ∧ (0 < x1 ∨ x2 = 0) ∧ seenB l = true ∧ lastS l = x1 := headOkB_iff _
theorem in_atH (x a b : Int) (w : World) : Calls Tryz.prog 33 #[.int .i64 x, .int .i64 a, .int .i64 b] w fun e w' => e = .returned (.bool (inB x a b)) ∧ Below w.heap.size w w' := by
 refine (in_any x a b w).mono ?_
 rintro e w' ⟨rfl, rfl⟩
 exact ⟨rfl, Below.refl _ _⟩
theorem time_at (x : Int) (w : World) : Calls Tryz.prog 67 #[.int .i64 x] w fun e w' => e = .returned (.bool (inB x 0 1000000)) ∧ Below w.heap.size w w' := by
 by_cases h : 0 ≤ x ∧ x ≤ 1000000
 · refine (TimeOk_yes x w h).mono ?_
   rintro e w' ⟨rfl, rfl⟩
   exact ⟨ret_bool ((inB_iff _ _ _).2 h).symm, Below.refl _ _⟩
 · refine (TimeOk_no x w h).mono ?_
   rintro e w' ⟨rfl, rfl⟩
   exact ⟨ret_bool (Bool.eq_false_iff.2 fun h9 => h ((inB_iff _ _ _).1 h9)).symm, Below.refl _ _⟩
set_option maxHeartbeats 12800000 in
theorem sHeadOk_any (x0 x1 x2 : Int) (A : Option Addr) (n cc B : Nat) (l : List MarkM) (w : World) (h : Rd w B [mrkD l] [.slice A n cc]) (hB : B ≤ w.heap.size) (hs : mrkSz l ≤ 1048577) :
    Calls Tryz.prog 29 #[.agg #[.int .i64 x0, .int .i64 x1, .int .i64 x2, .slice A n cc]] w fun e w' => e = .returned (.bool (headOkB ⟨x0, x1, x2, l⟩)) ∧ Below w.heap.size w w' := by
 have HH := jd h
 clear h
 have S := Sep.nil w w.heap.size
 have c := Below.refl w.heap.size w
 replace S := S.boxAt c.size (w.heap.size) rfl #[.int .i64 x0, .int .i64 x1, .int .i64 x2, .slice A n cc] 46
 replace c := al c S
 have C := jd c
 cases c0 : inB x1 0 2000
 case false =>
  have C0 := jd c0
  have K0 : ∀ v, Calls Tryz.prog 33 #[.int .i64 x1, .int .i64 0, .int .i64 2000] v fun e w' => e = .returned (.bool false) ∧ Below v.heap.size v w' := fun v => by have h9 := in_atH x1 0 2000 v; rw [C0.out] at h9; exact h9
  have HV := jd (show false = headOkB ⟨x0, x1, x2, l⟩ from (Bool.eq_false_iff.2 fun h9 => by have h9 := (headOkB_mk x0 x1 x2 l).1 h9; rw [(inB_iff _ _ _).2 h9.1] at c0; cases c0).symm)
  clear c0
  go_enter Tryz.func29, Tryz.ntmps29
  have f0 := lk S 0 0 rfl rfl
  have f1 := lk S 0 1 rfl rfl
  have f2 := lk S 0 2 rfl rfl
  have f3 := lk S 0 3 rfl rfl
  go_wp2_with fail
  generalize w.alloc (.cells #[.int .i64 x0, .int .i64 x1, .int .i64 x2, .slice A n cc] 46) = w1 at *
  have hrd := HH.out.keep (c.mono hB)
  have hbs := Nat.le_trans hB c.size
  refine wp_region_cls (fun v => v.cell? ⟨w.heap.size, 0, none⟩ = some (.int .i64 x0) ∧ v.cell? ⟨w.heap.size, 1, none⟩ = some (.int .i64 x1) ∧ v.cell? ⟨w.heap.size, 2, none⟩ = some (.int .i64 x2) ∧ v.cell? ⟨w.heap.size, 3, none⟩ = some (.slice A n cc) ∧ Rd v B [mrkD l] [.slice A n cc] ∧ B ≤ v.heap.size) (by kernel_rfl) (by kernel_rfl) (fun v hv => ⟨cq hv f0, cq hv f1, cq hv f2, cq hv f3, hrd.keep (hv.mono hbs), Nat.le_trans hbs hv.size⟩) ?_
  intro CL HF HC
  repeat
   (first
      | go_big_quiet_skip
      | (go_big_quiet_want
         go_big_quiet_op
         first
          | go_big_quiet_on
          | (apply Exists.intro
             refine ⟨fun v hv => ?_, ?_⟩
             · obtain ⟨a0, a1, a2, a3, a4, a5⟩ := HF v hv
               first
                | (go_at_call 33; with_reducible exact Calls.cls HC hv (K0 v) rfl)
                | exact rfl
                | (go_simp; exact rfl)
                | (go_simp; exact ⟨rfl, hv⟩)
             go_big_quiet_on)))
  refine wpQuiet_nil ?_
  intro w9 b9
  have CC := jd (c.trans (b9.mono c.size))
  clear S c b9 hrd hbs f0 f1 f2 f3
  go_wp2
  go_ret
  exact ⟨ret_bool HV.out, CC.out⟩
 case true =>
  have C0 := jd c0
  have K0 : ∀ v, Calls Tryz.prog 33 #[.int .i64 x1, .int .i64 0, .int .i64 2000] v fun e w' => e = .returned (.bool true) ∧ Below v.heap.size v w' := fun v => by have h9 := in_atH x1 0 2000 v; rw [C0.out] at h9; exact h9
  cases c1 : inB x0 0 x1
  case false =>
   have C1 := jd c1
   have K1 : ∀ v, Calls Tryz.prog 33 #[.int .i64 x0, .int .i64 0, .int .i64 x1] v fun e w' => e = .returned (.bool false) ∧ Below v.heap.size v w' := fun v => by have h9 := in_atH x0 0 x1 v; rw [C1.out] at h9; exact h9
   have HV := jd (show false = headOkB ⟨x0, x1, x2, l⟩ from (Bool.eq_false_iff.2 fun h9 => by have h9 := (headOkB_mk x0 x1 x2 l).1 h9; rw [(inB_iff _ _ _).2 h9.2.1] at c1; cases c1).symm)
   clear c0 c1
   go_enter Tryz.func29, Tryz.ntmps29
   have f0 := lk S 0 0 rfl rfl
   have f1 := lk S 0 1 rfl rfl
   have f2 := lk S 0 2 rfl rfl
   have f3 := lk S 0 3 rfl rfl
   go_wp2_with fail
   generalize w.alloc (.cells #[.int .i64 x0, .int .i64 x1, .int .i64 x2, .slice A n cc] 46) = w1 at *
   have hrd := HH.out.keep (c.mono hB)
   have hbs := Nat.le_trans hB c.size
   refine wp_region_cls (fun v => v.cell? ⟨w.heap.size, 0, none⟩ = some (.int .i64 x0) ∧ v.cell? ⟨w.heap.size, 1, none⟩ = some (.int .i64 x1) ∧ v.cell? ⟨w.heap.size, 2, none⟩ = some (.int .i64 x2) ∧ v.cell? ⟨w.heap.size, 3, none⟩ = some (.slice A n cc) ∧ Rd v B [mrkD l] [.slice A n cc] ∧ B ≤ v.heap.size) (by kernel_rfl) (by kernel_rfl) (fun v hv => ⟨cq hv f0, cq hv f1, cq hv f2, cq hv f3, hrd.keep (hv.mono hbs), Nat.le_trans hbs hv.size⟩) ?_
   intro CL HF HC
   repeat
    (first
       | go_big_quiet_skip
       | (go_big_quiet_want
          go_big_quiet_op
          first
           | go_big_quiet_on
           | (apply Exists.intro
              refine ⟨fun v hv => ?_, ?_⟩
              · obtain ⟨a0, a1, a2, a3, a4, a5⟩ := HF v hv
                first
                 | (go_at_call 33; with_reducible exact Calls.cls HC hv (K0 v) rfl)
                 | (go_at_call 33; with_reducible exact Calls.cls HC hv (K1 v) rfl)
                 | exact rfl
                 | (go_simp; exact rfl)
                 | (go_simp; exact ⟨rfl, hv⟩)
              go_big_quiet_on)))
   refine wpQuiet_nil ?_
   intro w9 b9
   have CC := jd (c.trans (b9.mono c.size))
   clear S c b9 hrd hbs f0 f1 f2 f3
   go_wp2
   go_ret
   exact ⟨ret_bool HV.out, CC.out⟩
  case true =>
   have C1 := jd c1
   have K1 : ∀ v, Calls Tryz.prog 33 #[.int .i64 x0, .int .i64 0, .int .i64 x1] v fun e w' => e = .returned (.bool true) ∧ Below v.heap.size v w' := fun v => by have h9 := in_atH x0 0 x1 v; rw [C1.out] at h9; exact h9
   cases c2 : inB x2 0 1000000
   case false =>
    have C2 := jd c2
    have HV := jd (show false = headOkB ⟨x0, x1, x2, l⟩ from (Bool.eq_false_iff.2 fun h9 => by have h9 := (headOkB_mk x0 x1 x2 l).1 h9; rw [(inB_iff _ _ _).2 h9.2.2.1] at c2; cases c2).symm)
    clear c0 c1 c2
    go_enter Tryz.func29, Tryz.ntmps29
    have f0 := lk S 0 0 rfl rfl
    have f1 := lk S 0 1 rfl rfl
    have f2 := lk S 0 2 rfl rfl
    have f3 := lk S 0 3 rfl rfl
    go_wp2_with fail
    generalize w.alloc (.cells #[.int .i64 x0, .int .i64 x1, .int .i64 x2, .slice A n cc] 46) = w1 at *
    have hrd := HH.out.keep (c.mono hB)
    have hbs := Nat.le_trans hB c.size
    refine wp_region_cls (fun v => v.cell? ⟨w.heap.size, 0, none⟩ = some (.int .i64 x0) ∧ v.cell? ⟨w.heap.size, 1, none⟩ = some (.int .i64 x1) ∧ v.cell? ⟨w.heap.size, 2, none⟩ = some (.int .i64 x2) ∧ v.cell? ⟨w.heap.size, 3, none⟩ = some (.slice A n cc) ∧ Rd v B [mrkD l] [.slice A n cc] ∧ B ≤ v.heap.size) (by kernel_rfl) (by kernel_rfl) (fun v hv => ⟨cq hv f0, cq hv f1, cq hv f2, cq hv f3, hrd.keep (hv.mono hbs), Nat.le_trans hbs hv.size⟩) ?_
    intro CL HF HC
    repeat
     (first
        | go_big_quiet_skip
        | (go_big_quiet_want
           go_big_quiet_op
           first
            | go_big_quiet_on
            | (apply Exists.intro
               refine ⟨fun v hv => ?_, ?_⟩
               · obtain ⟨a0, a1, a2, a3, a4, a5⟩ := HF v hv
                 first
                  | (go_at_call 33; with_reducible exact Calls.cls HC hv (K0 v) rfl)
                  | (go_at_call 33; with_reducible exact Calls.cls HC hv (K1 v) rfl)
                  | (go_at_call 67; exact Calls.cls HC hv (time_at x2 v) (congrArg Value.bool C2.out))
                  | exact rfl
                  | (go_simp; exact rfl)
                  | (go_simp; exact ⟨rfl, hv⟩)
               go_big_quiet_on)))
    refine wpQuiet_nil ?_
    intro w9 b9
    have CC := jd (c.trans (b9.mono c.size))
    clear S c b9 hrd hbs f0 f1 f2 f3
    go_wp2
    go_ret
    exact ⟨ret_bool HV.out, CC.out⟩
   case true =>
    have C2 := jd c2
    by_cases q3 : 0 < x1
    case neg =>
     have d0 : decide (x1 > 0) = false := decide_eq_false (by omega)
     have d1 : decide (0 < x1) = false := decide_eq_false (by omega)
     by_cases q4 : x2 = 0
     case neg =>
      have d2 : (x2 == 0) = false := by simpa using q4
      have d3 : decide (x2 = 0) = false := decide_eq_false q4
      have HV := jd (show false = headOkB ⟨x0, x1, x2, l⟩ from (Bool.eq_false_iff.2 fun h9 => by have h9 := (headOkB_mk x0 x1 x2 l).1 h9; have := h9.2.2.2.1; omega).symm)
      clear c0 c1 c2 q3 q4
      go_enter Tryz.func29, Tryz.ntmps29
      have f0 := lk S 0 0 rfl rfl
      have f1 := lk S 0 1 rfl rfl
      have f2 := lk S 0 2 rfl rfl
      have f3 := lk S 0 3 rfl rfl
      go_wp2_with fail
      generalize w.alloc (.cells #[.int .i64 x0, .int .i64 x1, .int .i64 x2, .slice A n cc] 46) = w1 at *
      have hrd := HH.out.keep (c.mono hB)
      have hbs := Nat.le_trans hB c.size
      refine wp_region_cls (fun v => v.cell? ⟨w.heap.size, 0, none⟩ = some (.int .i64 x0) ∧ v.cell? ⟨w.heap.size, 1, none⟩ = some (.int .i64 x1) ∧ v.cell? ⟨w.heap.size, 2, none⟩ = some (.int .i64 x2) ∧ v.cell? ⟨w.heap.size, 3, none⟩ = some (.slice A n cc) ∧ Rd v B [mrkD l] [.slice A n cc] ∧ B ≤ v.heap.size) (by kernel_rfl) (by kernel_rfl) (fun v hv => ⟨cq hv f0, cq hv f1, cq hv f2, cq hv f3, hrd.keep (hv.mono hbs), Nat.le_trans hbs hv.size⟩) ?_
      intro CL HF HC
      repeat
       (first
          | go_big_quiet_skip
          | (go_big_quiet_want
             go_big_quiet_op
             first
              | go_big_quiet_on
              | (apply Exists.intro
                 refine ⟨fun v hv => ?_, ?_⟩
                 · obtain ⟨a0, a1, a2, a3, a4, a5⟩ := HF v hv
                   first
                    | (go_at_call 33; with_reducible exact Calls.cls HC hv (K0 v) rfl)
                    | (go_at_call 33; with_reducible exact Calls.cls HC hv (K1 v) rfl)
                    | (go_at_call 67; exact Calls.cls HC hv (time_at x2 v) (congrArg Value.bool C2.out))
                    | exact rfl
                    | (go_simp; exact rfl)
                    | (go_simp; exact ⟨rfl, hv⟩)
                 go_big_quiet_on)))
      refine wpQuiet_nil ?_
      intro w9 b9
      have CC := jd (c.trans (b9.mono c.size))
      clear S c b9 hrd hbs f0 f1 f2 f3
      go_wp2
      go_ret
      exact ⟨ret_bool HV.out, CC.out⟩
     case pos =>
      have d2 : (x2 == 0) = true := by simpa using q4
      have HQ := jd (show 0 < x1 ∨ x2 = 0 from Or.inr q4)
      clear q3 q4
      cases c4 : seenB l
      case false =>
       have C4 := jd c4
       have HV := jd (show false = headOkB ⟨x0, x1, x2, l⟩ from (Bool.eq_false_iff.2 fun h9 => by have h9 := (headOkB_mk x0 x1 x2 l).1 h9; rw [h9.2.2.2.2.1] at c4; cases c4).symm)
       clear c0 c1 c2 c4
       go_enter Tryz.func29, Tryz.ntmps29
       have f0 := lk S 0 0 rfl rfl
       have f1 := lk S 0 1 rfl rfl
       have f2 := lk S 0 2 rfl rfl
       have f3 := lk S 0 3 rfl rfl
       go_wp2_with fail
       generalize w.alloc (.cells #[.int .i64 x0, .int .i64 x1, .int .i64 x2, .slice A n cc] 46) = w1 at *
       have hrd := HH.out.keep (c.mono hB)
       have hbs := Nat.le_trans hB c.size
       refine wp_region_cls (fun v => v.cell? ⟨w.heap.size, 0, none⟩ = some (.int .i64 x0) ∧ v.cell? ⟨w.heap.size, 1, none⟩ = some (.int .i64 x1) ∧ v.cell? ⟨w.heap.size, 2, none⟩ = some (.int .i64 x2) ∧ v.cell? ⟨w.heap.size, 3, none⟩ = some (.slice A n cc) ∧ Rd v B [mrkD l] [.slice A n cc] ∧ B ≤ v.heap.size) (by kernel_rfl) (by kernel_rfl) (fun v hv => ⟨cq hv f0, cq hv f1, cq hv f2, cq hv f3, hrd.keep (hv.mono hbs), Nat.le_trans hbs hv.size⟩) ?_
       intro CL HF HC
       repeat
        (first
           | go_big_quiet_skip
           | (go_big_quiet_want
              go_big_quiet_op
              first
               | go_big_quiet_on
               | (apply Exists.intro
                  refine ⟨fun v hv => ?_, ?_⟩
                  · obtain ⟨a0, a1, a2, a3, a4, a5⟩ := HF v hv
                    first
                     | (go_at_call 33; with_reducible exact Calls.cls HC hv (K0 v) rfl)
                     | (go_at_call 33; with_reducible exact Calls.cls HC hv (K1 v) rfl)
                     | (go_at_call 67; exact Calls.cls HC hv (time_at x2 v) (congrArg Value.bool C2.out))
                     | (go_at_call 68; exact Calls.cls HC hv (sSeen_any A n cc B l v a4 a5 hs) (congrArg Value.bool C4.out))
                     | exact rfl
                     | (go_simp; exact rfl)
                     | (go_simp; exact ⟨rfl, hv⟩)
                  go_big_quiet_on)))
       refine wpQuiet_nil ?_
       intro w9 b9
       have CC := jd (c.trans (b9.mono c.size))
       clear S c b9 hrd hbs f0 f1 f2 f3
       go_wp2
       go_ret
       exact ⟨ret_bool HV.out, CC.out⟩
      case true =>
       have C4 := jd c4
       obtain ⟨g5, hg5⟩ : ∃ g, (lastS l == x1) = g := ⟨_, rfl⟩
       have HV := jd (show g5 = headOkB ⟨x0, x1, x2, l⟩ by
        rw [Bool.eq_iff_iff, headOkB_mk, ← hg5, beq_iff_eq]
        exact ⟨fun h9 => ⟨(inB_iff _ _ _).1 c0, (inB_iff _ _ _).1 c1, (inB_iff _ _ _).1 c2, HQ.out, c4, h9⟩, fun h9 => h9.2.2.2.2.2⟩)
       clear c0 c1 c2 c4
       go_enter Tryz.func29, Tryz.ntmps29
       have f0 := lk S 0 0 rfl rfl
       have f1 := lk S 0 1 rfl rfl
       have f2 := lk S 0 2 rfl rfl
       have f3 := lk S 0 3 rfl rfl
       go_wp2_with fail
       generalize w.alloc (.cells #[.int .i64 x0, .int .i64 x1, .int .i64 x2, .slice A n cc] 46) = w1 at *
       have hrd := HH.out.keep (c.mono hB)
       have hbs := Nat.le_trans hB c.size
       refine wp_region_cls (fun v => v.cell? ⟨w.heap.size, 0, none⟩ = some (.int .i64 x0) ∧ v.cell? ⟨w.heap.size, 1, none⟩ = some (.int .i64 x1) ∧ v.cell? ⟨w.heap.size, 2, none⟩ = some (.int .i64 x2) ∧ v.cell? ⟨w.heap.size, 3, none⟩ = some (.slice A n cc) ∧ Rd v B [mrkD l] [.slice A n cc] ∧ B ≤ v.heap.size) (by kernel_rfl) (by kernel_rfl) (fun v hv => ⟨cq hv f0, cq hv f1, cq hv f2, cq hv f3, hrd.keep (hv.mono hbs), Nat.le_trans hbs hv.size⟩) ?_
       intro CL HF HC
       repeat
        (first
           | go_big_quiet_skip
           | (go_big_quiet_want
              go_big_quiet_op
              first
               | go_big_quiet_on
               | (apply Exists.intro
                  refine ⟨fun v hv => ?_, ?_⟩
                  · obtain ⟨a0, a1, a2, a3, a4, a5⟩ := HF v hv
                    first
                     | (go_at_call 33; with_reducible exact Calls.cls HC hv (K0 v) rfl)
                     | (go_at_call 33; with_reducible exact Calls.cls HC hv (K1 v) rfl)
                     | (go_at_call 67; exact Calls.cls HC hv (time_at x2 v) (congrArg Value.bool C2.out))
                     | (go_at_call 68; exact Calls.cls HC hv (sSeen_any A n cc B l v a4 a5 hs) (congrArg Value.bool C4.out))
                     | (go_at_call 69; exact Calls.cls HC hv (sLastS_any A n cc B l v a4 a5 hs) rfl)
                     | exact rfl
                     | (go_simp; exact rfl)
                     | (go_simp; exact ⟨rfl, hv⟩)
                  go_big_quiet_on)))
       refine wpQuiet_nil ?_
       intro w9 b9
       have CC := jd (c.trans (b9.mono c.size))
       clear S c b9 hrd hbs f0 f1 f2 f3
       go_wp2
       go_ret
       exact ⟨ret_bool HV.out, CC.out⟩
    case pos =>
     have d0 : decide (x1 > 0) = true := decide_eq_true (by omega)
     have d1 : decide (0 < x1) = true := decide_eq_true (by omega)
     have HQ := jd (show 0 < x1 ∨ x2 = 0 from Or.inl q3)
     clear q3
     cases c4 : seenB l
     case false =>
      have C4 := jd c4
      have HV := jd (show false = headOkB ⟨x0, x1, x2, l⟩ from (Bool.eq_false_iff.2 fun h9 => by have h9 := (headOkB_mk x0 x1 x2 l).1 h9; rw [h9.2.2.2.2.1] at c4; cases c4).symm)
      clear c0 c1 c2 c4
      go_enter Tryz.func29, Tryz.ntmps29
      have f0 := lk S 0 0 rfl rfl
      have f1 := lk S 0 1 rfl rfl
      have f2 := lk S 0 2 rfl rfl
      have f3 := lk S 0 3 rfl rfl
      go_wp2_with fail
      generalize w.alloc (.cells #[.int .i64 x0, .int .i64 x1, .int .i64 x2, .slice A n cc] 46) = w1 at *
      have hrd := HH.out.keep (c.mono hB)
      have hbs := Nat.le_trans hB c.size
      refine wp_region_cls (fun v => v.cell? ⟨w.heap.size, 0, none⟩ = some (.int .i64 x0) ∧ v.cell? ⟨w.heap.size, 1, none⟩ = some (.int .i64 x1) ∧ v.cell? ⟨w.heap.size, 2, none⟩ = some (.int .i64 x2) ∧ v.cell? ⟨w.heap.size, 3, none⟩ = some (.slice A n cc) ∧ Rd v B [mrkD l] [.slice A n cc] ∧ B ≤ v.heap.size) (by kernel_rfl) (by kernel_rfl) (fun v hv => ⟨cq hv f0, cq hv f1, cq hv f2, cq hv f3, hrd.keep (hv.mono hbs), Nat.le_trans hbs hv.size⟩) ?_
      intro CL HF HC
      repeat
       (first
          | go_big_quiet_skip
          | (go_big_quiet_want
             go_big_quiet_op
             first
              | go_big_quiet_on
              | (apply Exists.intro
                 refine ⟨fun v hv => ?_, ?_⟩
                 · obtain ⟨a0, a1, a2, a3, a4, a5⟩ := HF v hv
                   first
                    | (go_at_call 33; with_reducible exact Calls.cls HC hv (K0 v) rfl)
                    | (go_at_call 33; with_reducible exact Calls.cls HC hv (K1 v) rfl)
                    | (go_at_call 67; exact Calls.cls HC hv (time_at x2 v) (congrArg Value.bool C2.out))
                    | (go_at_call 68; exact Calls.cls HC hv (sSeen_any A n cc B l v a4 a5 hs) (congrArg Value.bool C4.out))
                    | exact rfl
                    | (go_simp; exact rfl)
                    | (go_simp; exact ⟨rfl, hv⟩)
                 go_big_quiet_on)))
      refine wpQuiet_nil ?_
      intro w9 b9
      have CC := jd (c.trans (b9.mono c.size))
      clear S c b9 hrd hbs f0 f1 f2 f3
      go_wp2
      go_ret
      exact ⟨ret_bool HV.out, CC.out⟩
     case true =>
      have C4 := jd c4
      obtain ⟨g5, hg5⟩ : ∃ g, (lastS l == x1) = g := ⟨_, rfl⟩
      have HV := jd (show g5 = headOkB ⟨x0, x1, x2, l⟩ by
       rw [Bool.eq_iff_iff, headOkB_mk, ← hg5, beq_iff_eq]
       exact ⟨fun h9 => ⟨(inB_iff _ _ _).1 c0, (inB_iff _ _ _).1 c1, (inB_iff _ _ _).1 c2, HQ.out, c4, h9⟩, fun h9 => h9.2.2.2.2.2⟩)
      clear c0 c1 c2 c4
      go_enter Tryz.func29, Tryz.ntmps29
      have f0 := lk S 0 0 rfl rfl
      have f1 := lk S 0 1 rfl rfl
      have f2 := lk S 0 2 rfl rfl
      have f3 := lk S 0 3 rfl rfl
      go_wp2_with fail
      generalize w.alloc (.cells #[.int .i64 x0, .int .i64 x1, .int .i64 x2, .slice A n cc] 46) = w1 at *
      have hrd := HH.out.keep (c.mono hB)
      have hbs := Nat.le_trans hB c.size
      refine wp_region_cls (fun v => v.cell? ⟨w.heap.size, 0, none⟩ = some (.int .i64 x0) ∧ v.cell? ⟨w.heap.size, 1, none⟩ = some (.int .i64 x1) ∧ v.cell? ⟨w.heap.size, 2, none⟩ = some (.int .i64 x2) ∧ v.cell? ⟨w.heap.size, 3, none⟩ = some (.slice A n cc) ∧ Rd v B [mrkD l] [.slice A n cc] ∧ B ≤ v.heap.size) (by kernel_rfl) (by kernel_rfl) (fun v hv => ⟨cq hv f0, cq hv f1, cq hv f2, cq hv f3, hrd.keep (hv.mono hbs), Nat.le_trans hbs hv.size⟩) ?_
      intro CL HF HC
      repeat
       (first
          | go_big_quiet_skip
          | (go_big_quiet_want
             go_big_quiet_op
             first
              | go_big_quiet_on
              | (apply Exists.intro
                 refine ⟨fun v hv => ?_, ?_⟩
                 · obtain ⟨a0, a1, a2, a3, a4, a5⟩ := HF v hv
                   first
                    | (go_at_call 33; with_reducible exact Calls.cls HC hv (K0 v) rfl)
                    | (go_at_call 33; with_reducible exact Calls.cls HC hv (K1 v) rfl)
                    | (go_at_call 67; exact Calls.cls HC hv (time_at x2 v) (congrArg Value.bool C2.out))
                    | (go_at_call 68; exact Calls.cls HC hv (sSeen_any A n cc B l v a4 a5 hs) (congrArg Value.bool C4.out))
                    | (go_at_call 69; exact Calls.cls HC hv (sLastS_any A n cc B l v a4 a5 hs) rfl)
                    | exact rfl
                    | (go_simp; exact rfl)
                    | (go_simp; exact ⟨rfl, hv⟩)
                 go_big_quiet_on)))
      refine wpQuiet_nil ?_
      intro w9 b9
      have CC := jd (c.trans (b9.mono c.size))
      clear S c b9 hrd hbs f0 f1 f2 f3
      go_wp2
      go_ret
      exact ⟨ret_bool HV.out, CC.out⟩
set_option maxHeartbeats 3200000 in
theorem sKeptOk_any (Aa0 : Option Addr) (na0 ca0 : Nat) (Aa1 : Option Addr) (na1 ca1 : Nat) (Aa2 : Option Addr) (na2 ca2 : Nat) (Aa3 : Option Addr) (na3 ca3 : Nat) (t : TwoM) (B : Nat) (w : World) (h : Rd w B t.cells [.slice Aa0 na0 ca0, .slice Aa1 na1 ca1, .slice Aa2 na2 ca2, .slice Aa3 na3 ca3]) (hB : B ≤ w.heap.size) (hs : t.sz ≤ 1048577) :
    Calls Tryz.prog 28 #[.agg #[.slice Aa0 na0 ca0, .slice Aa1 na1 ca1, .slice Aa2 na2 ca2, .slice Aa3 na3 ca3]] w fun e w' => e = .returned (.bool (keptB t)) ∧ Below w.heap.size w w' := by
 have hn0 : t.a.kept.length = na0 := rdKeptLen h.halves.1
 have HH := jd h
 clear h
 have S := Sep.nil w w.heap.size
 have c := Below.refl w.heap.size w
 replace S := S.boxAt c.size (w.heap.size) rfl #[.slice Aa0 na0 ca0, .slice Aa1 na1 ca1, .slice Aa2 na2 ca2, .slice Aa3 na3 ca3] 43
 replace c := al c S
 go_enter Tryz.func28, Tryz.ntmps28
 have f0 := lk S 0 0 rfl rfl
 have f1 := lk S 0 1 rfl rfl
 have f2 := lk S 0 2 rfl rfl
 have f3 := lk S 0 3 rfl rfl
 go_wp2_with fail
 generalize w.alloc (.cells #[.slice Aa0 na0 ca0, .slice Aa1 na1 ca1, .slice Aa2 na2 ca2, .slice Aa3 na3 ca3] 43) = w1 at *
 refine (sTwoOk_any Aa0 na0 ca0 Aa1 na1 ca1 Aa2 na2 ca2 Aa3 na3 ca3 t B _ (HH.out.keep (c.mono hB)) (Nat.le_trans hB c.size) hs).mono ?_
 rintro e w2 ⟨rfl, b2⟩
 replace c := c.trans (b2.mono c.size)
 replace S := S.keep b2
 clear b2 f0 f1 f2 f3
 cases hok : twoOk t
 case false =>
  have HV := jd (show false = keptB t by unfold keptB; rw [hok]; rfl)
  have CC := jd c
  clear S c hok hn0
  go_wp2
  go_ret
  exact ⟨ret_bool HV.out, CC.out⟩
 case true =>
  obtain ⟨g5, hg5⟩ : ∃ g, ((na0 : Int) == 22) = g := ⟨_, rfl⟩
  have hg6 : decide ((na0 : Int) = 22) = g5 := by rw [← hg5]; rfl
  have HV := jd (show g5 = keptB t by
   unfold keptB
   rw [hok, ← hg5, Bool.true_and, hn0, Bool.eq_iff_iff, beq_iff_eq, decide_eq_true_eq]
   omega)
  clear hok hn0
  have f4 := lk S 0 0 rfl rfl
  have f5 := lk S 0 1 rfl rfl
  have f6 := lk S 0 2 rfl rfl
  have f7 := lk S 0 3 rfl rfl
  have CC := jd c
  clear S c
  go_wp2
  go_ret
  exact ⟨ret_bool HV.out, CC.out⟩
theorem Has.headT {w : World} {base : Nat} {t : HeadM} {v0 v1 v2 v3 : Value} (h : Has w base t.cells [v0, v1, v2, v3]) : v0 = .int .i64 t.num ∧ v1 = .int .i64 t.base ∧ v2 = .int .i64 t.tm ∧ Has w base [mrkD t.seen] [v3] := by
 obtain ⟨fp, o, nd, ge⟩ := h
 obtain ⟨_, _, _, e0, e1, e2, _, _⟩ := o.rd.headT
 obtain ⟨f3, rfl, o3⟩ := Ow.headT o
 rw [List.append_nil] at nd ge
 exact ⟨e0, e1, e2, f3, o3, nd, ge⟩
theorem sHeadOk_c : CHeadOk 29 := fun x0 x1 x2 A n cc l w h hs => sHeadOk_any x0 x1 x2 A n cc _ l w h (Nat.le_refl _) hs
theorem sKeptOk_c : CKeptOk 28 := fun Aa0 na0 ca0 Aa1 na1 ca1 Aa2 na2 ca2 Aa3 na3 ca3 t w h hs => sKeptOk_any Aa0 na0 ca0 Aa1 na1 ca1 Aa2 na2 ca2 Aa3 na3 ca3 t _ w h (Nat.le_refl _) hs
theorem sBookOk_c : CBookOk 30 := fun x0 x1 A n cc l w h hs => sBookOk_any x0 x1 A n cc _ l w h (Nat.le_refl _) hs
end Go.Proofs.YthjjdelpdiipdaaGreatDoor
namespace Go.Proofs.YthjjdelpdiipdaaGreatDoor
set_option maxRecDepth 100000
set_option linter.unusedVariables false
section
variable {P : Program} {ops : Array Oper} {Q : Exit → Act → World → Prop} {md : Region.Mode} {F : World → Prop} {last : Nat}
theorem wpAnyL_stepg {i : Nat} {o : Oper} {fuel : Nat} {listed : Array Bool} {a : Act} {w : World} (hr : Region.ready md ops listed = [i]) (ho : ops[i]? = some o) (hw : Region.wanted o (yielded ops a.tmps) = true)
    (h : ∀ K : Act → World → Prop, (∀ a' w', ((listed.setIfInBounds i true).getD last true = false → F w') → wpAnyL P md ops Q F last fuel (listed.setIfInBounds i true) a' w' → K a' w') → Oper.wp P o a w K Q) :
    wpAnyL P md ops Q F last (fuel + 1) listed a w := by
 refine ⟨fun h0 => (by rw [hr] at h0; cases h0), fun j hj => ?_⟩
 rw [hr] at hj
 have hji : j = i := by simpa using hj
 subst hji
 unfold wpOp
 simp only [ho]
 rw [if_pos hw]
 exact .inl (h _ fun a' w' h1 h2 => ⟨h1, h2⟩)
end
end Go.Proofs.YthjjdelpdiipdaaGreatDoor
