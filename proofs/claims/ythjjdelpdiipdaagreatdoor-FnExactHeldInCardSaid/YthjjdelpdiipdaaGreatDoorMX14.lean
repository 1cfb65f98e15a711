/- Parts of my texts: EntI1. -/
import Derived.Test.YthjjdelpdiipdaaGreatDoorMX8
namespace Go.Proofs.YthjjdelpdiipdaaGreatDoor
set_option maxRecDepth 100000
set_option linter.unusedVariables false
open Go.RowKit
theorem i_isKey_any (x : Int) (w : World) : Calls Tryz.prog 179 #[.int .i64 x] w fun e w' => e = .returned (.bool (inB x 0 9)) ∧ w = w' := by
 go_enter Tryz.func179, Tryz.ntmps179
 go_wp2
 all_goals
  go_ret
  refine ⟨ret_bool ?_, rfl⟩
  first | rfl | (simp_all [inB]; done) | (rw [Bool.eq_iff_iff]; simp_all [inB] <;> omega) | (simp_all [inB] <;> omega)
theorem i_isKey_yes (x : Int) (w : World) (h : 0 ≤ x ∧ x ≤ 9) : Calls Tryz.prog 179 #[.int .i64 x] w fun e w' => e = .returned (.bool true) ∧ w = w' := by
 have := i_isKey_any x w
 rw [(inB_iff _ _ _).2 h] at this
 exact this
theorem i_isKey_no (x : Int) (w : World) (h : ¬ (0 ≤ x ∧ x ≤ 9)) : Calls Tryz.prog 179 #[.int .i64 x] w fun e w' => e = .returned (.bool false) ∧ w = w' := by
 have := i_isKey_any x w
 rw [show inB x 0 9 = false from Bool.eq_false_iff.2 fun h9 => h ((inB_iff _ _ _).1 h9)] at this
 exact this
theorem i_isValue_any (x : Int) (w : World) : Calls Tryz.prog 180 #[.int .i64 x] w fun e w' => e = .returned (.bool (inB x 0 999)) ∧ w = w' := by
 go_enter Tryz.func180, Tryz.ntmps180
 go_wp2
 all_goals
  go_ret
  refine ⟨ret_bool ?_, rfl⟩
  first | rfl | (simp_all [inB]; done) | (rw [Bool.eq_iff_iff]; simp_all [inB] <;> omega) | (simp_all [inB] <;> omega)
theorem i_isValue_yes (x : Int) (w : World) (h : 0 ≤ x ∧ x ≤ 999) : Calls Tryz.prog 180 #[.int .i64 x] w fun e w' => e = .returned (.bool true) ∧ w = w' := by
 have := i_isValue_any x w
 rw [(inB_iff _ _ _).2 h] at this
 exact this
theorem i_isValue_no (x : Int) (w : World) (h : ¬ (0 ≤ x ∧ x ≤ 999)) : Calls Tryz.prog 180 #[.int .i64 x] w fun e w' => e = .returned (.bool false) ∧ w = w' := by
 have := i_isValue_any x w
 rw [show inB x 0 999 = false from Bool.eq_false_iff.2 fun h9 => h ((inB_iff _ _ _).1 h9)] at this
 exact this
theorem i_isId_any (x : Int) (w : World) : Calls Tryz.prog 181 #[.int .i64 x] w fun e w' => e = .returned (.bool (inB x 1 20)) ∧ w = w' := by
 go_enter Tryz.func181, Tryz.ntmps181
 go_wp2
 all_goals
  go_ret
  refine ⟨ret_bool ?_, rfl⟩
  first | rfl | (simp_all [inB]; done) | (rw [Bool.eq_iff_iff]; simp_all [inB] <;> omega) | (simp_all [inB] <;> omega)
theorem i_isId_yes (x : Int) (w : World) (h : 1 ≤ x ∧ x ≤ 20) : Calls Tryz.prog 181 #[.int .i64 x] w fun e w' => e = .returned (.bool true) ∧ w = w' := by
 have := i_isId_any x w
 rw [(inB_iff _ _ _).2 h] at this
 exact this
theorem i_isId_no (x : Int) (w : World) (h : ¬ (1 ≤ x ∧ x ≤ 20)) : Calls Tryz.prog 181 #[.int .i64 x] w fun e w' => e = .returned (.bool false) ∧ w = w' := by
 have := i_isId_any x w
 rw [show inB x 1 20 = false from Bool.eq_false_iff.2 fun h9 => h ((inB_iff _ _ _).1 h9)] at this
 exact this
theorem i_isEpoch_any (x : Int) (w : World) : Calls Tryz.prog 182 #[.int .i64 x] w fun e w' => e = .returned (.bool (inB x 0 1000)) ∧ w = w' := by
 go_enter Tryz.func182, Tryz.ntmps182
 go_wp2
 all_goals
  go_ret
  refine ⟨ret_bool ?_, rfl⟩
  first | rfl | (simp_all [inB]; done) | (rw [Bool.eq_iff_iff]; simp_all [inB] <;> omega) | (simp_all [inB] <;> omega)
theorem i_isEpoch_yes (x : Int) (w : World) (h : 0 ≤ x ∧ x ≤ 1000) : Calls Tryz.prog 182 #[.int .i64 x] w fun e w' => e = .returned (.bool true) ∧ w = w' := by
 have := i_isEpoch_any x w
 rw [(inB_iff _ _ _).2 h] at this
 exact this
theorem i_isEpoch_no (x : Int) (w : World) (h : ¬ (0 ≤ x ∧ x ≤ 1000)) : Calls Tryz.prog 182 #[.int .i64 x] w fun e w' => e = .returned (.bool false) ∧ w = w' := by
 have := i_isEpoch_any x w
 rw [show inB x 0 1000 = false from Bool.eq_false_iff.2 fun h9 => h ((inB_iff _ _ _).1 h9)] at this
 exact this
theorem i_isLong_any (x : Int) (w : World) : Calls Tryz.prog 183 #[.int .i64 x] w fun e w' => e = .returned (.bool (inB x 1 1000)) ∧ w = w' := by
 go_enter Tryz.func183, Tryz.ntmps183
 go_wp2
 all_goals
  go_ret
  refine ⟨ret_bool ?_, rfl⟩
  first | rfl | (simp_all [inB]; done) | (rw [Bool.eq_iff_iff]; simp_all [inB] <;> omega) | (simp_all [inB] <;> omega)
theorem i_isLong_yes (x : Int) (w : World) (h : 1 ≤ x ∧ x ≤ 1000) : Calls Tryz.prog 183 #[.int .i64 x] w fun e w' => e = .returned (.bool true) ∧ w = w' := by
 have := i_isLong_any x w
 rw [(inB_iff _ _ _).2 h] at this
 exact this
theorem i_isLong_no (x : Int) (w : World) (h : ¬ (1 ≤ x ∧ x ≤ 1000)) : Calls Tryz.prog 183 #[.int .i64 x] w fun e w' => e = .returned (.bool false) ∧ w = w' := by
 have := i_isLong_any x w
 rw [show inB x 1 1000 = false from Bool.eq_false_iff.2 fun h9 => h ((inB_iff _ _ _).1 h9)] at this
 exact this
theorem i_isIndex_any (x : Int) (w : World) : Calls Tryz.prog 154 #[.int .i64 x] w fun e w' => e = .returned (.bool (inB x 1 2000)) ∧ w = w' := by
 go_enter Tryz.func154, Tryz.ntmps154
 go_wp2
 all_goals
  go_ret
  refine ⟨ret_bool ?_, rfl⟩
  first | rfl | (simp_all [inB]; done) | (rw [Bool.eq_iff_iff]; simp_all [inB] <;> omega) | (simp_all [inB] <;> omega)
theorem i_isIndex_yes (x : Int) (w : World) (h : 1 ≤ x ∧ x ≤ 2000) : Calls Tryz.prog 154 #[.int .i64 x] w fun e w' => e = .returned (.bool true) ∧ w = w' := by
 have := i_isIndex_any x w
 rw [(inB_iff _ _ _).2 h] at this
 exact this
theorem i_isIndex_no (x : Int) (w : World) (h : ¬ (1 ≤ x ∧ x ≤ 2000)) : Calls Tryz.prog 154 #[.int .i64 x] w fun e w' => e = .returned (.bool false) ∧ w = w' := by
 have := i_isIndex_any x w
 rw [show inB x 1 2000 = false from Bool.eq_false_iff.2 fun h9 => h ((inB_iff _ _ _).1 h9)] at this
 exact this
theorem i_isSeq_any (x : Int) (w : World) : Calls Tryz.prog 153 #[.int .i64 x] w fun e w' => e = .returned (.bool (inB x 1 2000)) ∧ w = w' := by
 go_enter Tryz.func153, Tryz.ntmps153
 go_wp2
 all_goals
  go_ret
  refine ⟨ret_bool ?_, rfl⟩
  first | rfl | (simp_all [inB]; done) | (rw [Bool.eq_iff_iff]; simp_all [inB] <;> omega) | (simp_all [inB] <;> omega)
theorem i_isSeq_yes (x : Int) (w : World) (h : 1 ≤ x ∧ x ≤ 2000) : Calls Tryz.prog 153 #[.int .i64 x] w fun e w' => e = .returned (.bool true) ∧ w = w' := by
 have := i_isSeq_any x w
 rw [(inB_iff _ _ _).2 h] at this
 exact this
theorem i_isSeq_no (x : Int) (w : World) (h : ¬ (1 ≤ x ∧ x ≤ 2000)) : Calls Tryz.prog 153 #[.int .i64 x] w fun e w' => e = .returned (.bool false) ∧ w = w' := by
 have := i_isSeq_any x w
 rw [show inB x 1 2000 = false from Bool.eq_false_iff.2 fun h9 => h ((inB_iff _ _ _).1 h9)] at this
 exact this
theorem i_TimeOk_any (x : Int) (w : World) : Calls Tryz.prog 115 #[.int .i64 x] w fun e w' => e = .returned (.bool (inB x 0 1000000)) ∧ w = w' := by
 go_enter Tryz.func115, Tryz.ntmps115
 go_wp2
 all_goals
  go_ret
  refine ⟨ret_bool ?_, rfl⟩
  first | rfl | (simp_all [inB]; done) | (rw [Bool.eq_iff_iff]; simp_all [inB] <;> omega) | (simp_all [inB] <;> omega)
theorem i_TimeOk_yes (x : Int) (w : World) (h : 0 ≤ x ∧ x ≤ 1000000) : Calls Tryz.prog 115 #[.int .i64 x] w fun e w' => e = .returned (.bool true) ∧ w = w' := by
 have := i_TimeOk_any x w
 rw [(inB_iff _ _ _).2 h] at this
 exact this
theorem i_TimeOk_no (x : Int) (w : World) (h : ¬ (0 ≤ x ∧ x ≤ 1000000)) : Calls Tryz.prog 115 #[.int .i64 x] w fun e w' => e = .returned (.bool false) ∧ w = w' := by
 have := i_TimeOk_any x w
 rw [show inB x 0 1000000 = false from Bool.eq_false_iff.2 fun h9 => h ((inB_iff _ _ _).1 h9)] at this
 exact this
theorem i_AskerOk_any (x : Int) (w : World) : Calls Tryz.prog 152 #[.int .i64 x] w fun e w' => e = .returned (.bool (inB x 2 5)) ∧ w = w' := by
 go_enter Tryz.func152, Tryz.ntmps152
 go_wp2
 all_goals
  go_ret
  refine ⟨ret_bool ?_, rfl⟩
  first | rfl | (simp_all [inB]; done) | (rw [Bool.eq_iff_iff]; simp_all [inB] <;> omega) | (simp_all [inB] <;> omega)
theorem i_AskerOk_yes (x : Int) (w : World) (h : 2 ≤ x ∧ x ≤ 5) : Calls Tryz.prog 152 #[.int .i64 x] w fun e w' => e = .returned (.bool true) ∧ w = w' := by
 have := i_AskerOk_any x w
 rw [(inB_iff _ _ _).2 h] at this
 exact this
theorem i_AskerOk_no (x : Int) (w : World) (h : ¬ (2 ≤ x ∧ x ≤ 5)) : Calls Tryz.prog 152 #[.int .i64 x] w fun e w' => e = .returned (.bool false) ∧ w = w' := by
 have := i_AskerOk_any x w
 rw [show inB x 2 5 = false from Bool.eq_false_iff.2 fun h9 => h ((inB_iff _ _ _).1 h9)] at this
 exact this
set_option maxHeartbeats 6400000 in
theorem iFits_any (x0 x1 x2 x3 x4 : Int) (w : World) :
    Calls Tryz.prog 172 #[.agg #[.int .i64 x0, .int .i64 x1, .int .i64 x2, .int .i64 x3, .int .i64 x4]] w fun e w' => e = .returned (.bool (opB ⟨x0, x1, x2, x3, x4⟩)) ∧ Below w.heap.size w w' := by
 by_cases h1 : x0 = 1
 · subst h1
   by_cases c1 : 0 ≤ x1 ∧ x1 ≤ 9
   · have C1 := jd c1
     by_cases c2 : 0 ≤ x2 ∧ x2 ≤ 999
     · have C2 := jd c2
       by_cases c3 : x3 = 0
       · subst c3
         by_cases c4 : x4 = 0
         · subst c4
           have HV := jd (show true = opB ⟨1, x1, x2, 0, 0⟩ by simp [opB, inB]; try omega)
           go_enter Tryz.func172, Tryz.ntmps172
           go_wp2_with (first
            | (go_at_call 179; refine (i_isKey_yes x1 _ C1.out).mono ?_; rintro e w' ⟨rfl, rfl⟩)
            | (go_at_call 180; refine (i_isValue_yes x2 _ C2.out).mono ?_; rintro e w' ⟨rfl, rfl⟩))
           go_ret
           exact ⟨ret_bool HV.out, (Below.refl _ _).alloc (Nat.le_refl _) _⟩
         · have HV := jd (show false = opB ⟨1, x1, x2, 0, x4⟩ by simp [opB, inB]; omega)
           have e4 : (x4 == 0) = false := by simpa using c4
           have d4 : decide (x4 = 0) = false := decide_eq_false c4
           go_enter Tryz.func172, Tryz.ntmps172
           go_wp2_with (first
            | (go_at_call 179; refine (i_isKey_yes x1 _ C1.out).mono ?_; rintro e w' ⟨rfl, rfl⟩)
            | (go_at_call 180; refine (i_isValue_yes x2 _ C2.out).mono ?_; rintro e w' ⟨rfl, rfl⟩))
           go_ret
           exact ⟨ret_bool HV.out, (Below.refl _ _).alloc (Nat.le_refl _) _⟩
       · have HV := jd (show false = opB ⟨1, x1, x2, x3, x4⟩ by simp [opB, inB]; omega)
         have e3 : (x3 == 0) = false := by simpa using c3
         have d3 : decide (x3 = 0) = false := decide_eq_false c3
         go_enter Tryz.func172, Tryz.ntmps172
         go_wp2_with (first
          | (go_at_call 179; refine (i_isKey_yes x1 _ C1.out).mono ?_; rintro e w' ⟨rfl, rfl⟩)
          | (go_at_call 180; refine (i_isValue_yes x2 _ C2.out).mono ?_; rintro e w' ⟨rfl, rfl⟩))
         go_ret
         exact ⟨ret_bool HV.out, (Below.refl _ _).alloc (Nat.le_refl _) _⟩
     · have C2 := jd c2
       have HV := jd (show false = opB ⟨1, x1, x2, x3, x4⟩ by simp [opB, inB]; omega)
       clear c2
       go_enter Tryz.func172, Tryz.ntmps172
       go_wp2_with (first
        | (go_at_call 179; refine (i_isKey_yes x1 _ C1.out).mono ?_; rintro e w' ⟨rfl, rfl⟩)
        | (go_at_call 180; refine (i_isValue_no x2 _ C2.out).mono ?_; rintro e w' ⟨rfl, rfl⟩))
       go_ret
       exact ⟨ret_bool HV.out, (Below.refl _ _).alloc (Nat.le_refl _) _⟩
   · have C1 := jd c1
     have HV := jd (show false = opB ⟨1, x1, x2, x3, x4⟩ by simp [opB, inB]; omega)
     clear c1
     go_enter Tryz.func172, Tryz.ntmps172
     go_wp2_with (first
      | (go_at_call 179; refine (i_isKey_no x1 _ C1.out).mono ?_; rintro e w' ⟨rfl, rfl⟩))
     go_ret
     exact ⟨ret_bool HV.out, (Below.refl _ _).alloc (Nat.le_refl _) _⟩
 by_cases h2 : x0 = 2
 · subst h2
   by_cases c1 : 0 ≤ x1 ∧ x1 ≤ 9
   · have C1 := jd c1
     by_cases c2 : x2 = 0
     · subst c2
       by_cases c3 : x3 = 0
       · subst c3
         by_cases c4 : x4 = 0
         · subst c4
           have HV := jd (show true = opB ⟨2, x1, 0, 0, 0⟩ by simp [opB, inB]; try omega)
           go_enter Tryz.func172, Tryz.ntmps172
           go_wp2_with (first
            | (go_at_call 179; refine (i_isKey_yes x1 _ C1.out).mono ?_; rintro e w' ⟨rfl, rfl⟩))
           go_ret
           exact ⟨ret_bool HV.out, (Below.refl _ _).alloc (Nat.le_refl _) _⟩
         · have HV := jd (show false = opB ⟨2, x1, 0, 0, x4⟩ by simp [opB, inB]; omega)
           have e4 : (x4 == 0) = false := by simpa using c4
           have d4 : decide (x4 = 0) = false := decide_eq_false c4
           go_enter Tryz.func172, Tryz.ntmps172
           go_wp2_with (first
            | (go_at_call 179; refine (i_isKey_yes x1 _ C1.out).mono ?_; rintro e w' ⟨rfl, rfl⟩))
           go_ret
           exact ⟨ret_bool HV.out, (Below.refl _ _).alloc (Nat.le_refl _) _⟩
       · have HV := jd (show false = opB ⟨2, x1, 0, x3, x4⟩ by simp [opB, inB]; omega)
         have e3 : (x3 == 0) = false := by simpa using c3
         have d3 : decide (x3 = 0) = false := decide_eq_false c3
         go_enter Tryz.func172, Tryz.ntmps172
         go_wp2_with (first
          | (go_at_call 179; refine (i_isKey_yes x1 _ C1.out).mono ?_; rintro e w' ⟨rfl, rfl⟩))
         go_ret
         exact ⟨ret_bool HV.out, (Below.refl _ _).alloc (Nat.le_refl _) _⟩
     · have HV := jd (show false = opB ⟨2, x1, x2, x3, x4⟩ by simp [opB, inB]; omega)
       have e2 : (x2 == 0) = false := by simpa using c2
       have d2 : decide (x2 = 0) = false := decide_eq_false c2
       go_enter Tryz.func172, Tryz.ntmps172
       go_wp2_with (first
        | (go_at_call 179; refine (i_isKey_yes x1 _ C1.out).mono ?_; rintro e w' ⟨rfl, rfl⟩))
       go_ret
       exact ⟨ret_bool HV.out, (Below.refl _ _).alloc (Nat.le_refl _) _⟩
   · have C1 := jd c1
     have HV := jd (show false = opB ⟨2, x1, x2, x3, x4⟩ by simp [opB, inB]; omega)
     clear c1
     go_enter Tryz.func172, Tryz.ntmps172
     go_wp2_with (first
      | (go_at_call 179; refine (i_isKey_no x1 _ C1.out).mono ?_; rintro e w' ⟨rfl, rfl⟩))
     go_ret
     exact ⟨ret_bool HV.out, (Below.refl _ _).alloc (Nat.le_refl _) _⟩
 by_cases h3 : x0 = 3
 · subst h3
   by_cases c1 : 1 ≤ x1 ∧ x1 ≤ 20
   · have C1 := jd c1
     by_cases c2 : 0 ≤ x2 ∧ x2 ≤ 1000000
     · have C2 := jd c2
       by_cases c3 : 0 ≤ x3 ∧ x3 ≤ 9
       · have C3 := jd c3
         by_cases c4 : 0 ≤ x4 ∧ x4 ≤ 999
         · have C4 := jd c4
           have HV := jd (show true = opB ⟨3, x1, x2, x3, x4⟩ by simp [opB, inB]; try omega)
           go_enter Tryz.func172, Tryz.ntmps172
           go_wp2_with (first
            | (go_at_call 181; refine (i_isId_yes x1 _ C1.out).mono ?_; rintro e w' ⟨rfl, rfl⟩)
            | (go_at_call 115; refine (i_TimeOk_yes x2 _ C2.out).mono ?_; rintro e w' ⟨rfl, rfl⟩)
            | (go_at_call 179; refine (i_isKey_yes x3 _ C3.out).mono ?_; rintro e w' ⟨rfl, rfl⟩)
            | (go_at_call 180; refine (i_isValue_yes x4 _ C4.out).mono ?_; rintro e w' ⟨rfl, rfl⟩))
           go_ret
           exact ⟨ret_bool HV.out, (Below.refl _ _).alloc (Nat.le_refl _) _⟩
         · have C4 := jd c4
           have HV := jd (show false = opB ⟨3, x1, x2, x3, x4⟩ by simp [opB, inB]; omega)
           clear c4
           go_enter Tryz.func172, Tryz.ntmps172
           go_wp2_with (first
            | (go_at_call 181; refine (i_isId_yes x1 _ C1.out).mono ?_; rintro e w' ⟨rfl, rfl⟩)
            | (go_at_call 115; refine (i_TimeOk_yes x2 _ C2.out).mono ?_; rintro e w' ⟨rfl, rfl⟩)
            | (go_at_call 179; refine (i_isKey_yes x3 _ C3.out).mono ?_; rintro e w' ⟨rfl, rfl⟩)
            | (go_at_call 180; refine (i_isValue_no x4 _ C4.out).mono ?_; rintro e w' ⟨rfl, rfl⟩))
           go_ret
           exact ⟨ret_bool HV.out, (Below.refl _ _).alloc (Nat.le_refl _) _⟩
       · have C3 := jd c3
         have HV := jd (show false = opB ⟨3, x1, x2, x3, x4⟩ by simp [opB, inB]; omega)
         clear c3
         go_enter Tryz.func172, Tryz.ntmps172
         go_wp2_with (first
          | (go_at_call 181; refine (i_isId_yes x1 _ C1.out).mono ?_; rintro e w' ⟨rfl, rfl⟩)
          | (go_at_call 115; refine (i_TimeOk_yes x2 _ C2.out).mono ?_; rintro e w' ⟨rfl, rfl⟩)
          | (go_at_call 179; refine (i_isKey_no x3 _ C3.out).mono ?_; rintro e w' ⟨rfl, rfl⟩))
         go_ret
         exact ⟨ret_bool HV.out, (Below.refl _ _).alloc (Nat.le_refl _) _⟩
     · have C2 := jd c2
       have HV := jd (show false = opB ⟨3, x1, x2, x3, x4⟩ by simp [opB, inB]; omega)
       clear c2
       go_enter Tryz.func172, Tryz.ntmps172
       go_wp2_with (first
        | (go_at_call 181; refine (i_isId_yes x1 _ C1.out).mono ?_; rintro e w' ⟨rfl, rfl⟩)
        | (go_at_call 115; refine (i_TimeOk_no x2 _ C2.out).mono ?_; rintro e w' ⟨rfl, rfl⟩))
       go_ret
       exact ⟨ret_bool HV.out, (Below.refl _ _).alloc (Nat.le_refl _) _⟩
   · have C1 := jd c1
     have HV := jd (show false = opB ⟨3, x1, x2, x3, x4⟩ by simp [opB, inB]; omega)
     clear c1
     go_enter Tryz.func172, Tryz.ntmps172
     go_wp2_with (first
      | (go_at_call 181; refine (i_isId_no x1 _ C1.out).mono ?_; rintro e w' ⟨rfl, rfl⟩))
     go_ret
     exact ⟨ret_bool HV.out, (Below.refl _ _).alloc (Nat.le_refl _) _⟩
 by_cases h4 : x0 = 4
 · subst h4
   by_cases c1 : 1 ≤ x1 ∧ x1 ≤ 20
   · have C1 := jd c1
     by_cases c2 : 0 ≤ x2 ∧ x2 ≤ 1000
     · have C2 := jd c2
       by_cases c3 : x3 = 0
       · subst c3
         by_cases c4 : x4 = 0
         · subst c4
           have HV := jd (show true = opB ⟨4, x1, x2, 0, 0⟩ by simp [opB, inB]; try omega)
           go_enter Tryz.func172, Tryz.ntmps172
           go_wp2_with (first
            | (go_at_call 181; refine (i_isId_yes x1 _ C1.out).mono ?_; rintro e w' ⟨rfl, rfl⟩)
            | (go_at_call 182; refine (i_isEpoch_yes x2 _ C2.out).mono ?_; rintro e w' ⟨rfl, rfl⟩))
           go_ret
           exact ⟨ret_bool HV.out, (Below.refl _ _).alloc (Nat.le_refl _) _⟩
         · have HV := jd (show false = opB ⟨4, x1, x2, 0, x4⟩ by simp [opB, inB]; omega)
           have e4 : (x4 == 0) = false := by simpa using c4
           have d4 : decide (x4 = 0) = false := decide_eq_false c4
           go_enter Tryz.func172, Tryz.ntmps172
           go_wp2_with (first
            | (go_at_call 181; refine (i_isId_yes x1 _ C1.out).mono ?_; rintro e w' ⟨rfl, rfl⟩)
            | (go_at_call 182; refine (i_isEpoch_yes x2 _ C2.out).mono ?_; rintro e w' ⟨rfl, rfl⟩))
           go_ret
           exact ⟨ret_bool HV.out, (Below.refl _ _).alloc (Nat.le_refl _) _⟩
       · have HV := jd (show false = opB ⟨4, x1, x2, x3, x4⟩ by simp [opB, inB]; omega)
         have e3 : (x3 == 0) = false := by simpa using c3
         have d3 : decide (x3 = 0) = false := decide_eq_false c3
         go_enter Tryz.func172, Tryz.ntmps172
         go_wp2_with (first
          | (go_at_call 181; refine (i_isId_yes x1 _ C1.out).mono ?_; rintro e w' ⟨rfl, rfl⟩)
          | (go_at_call 182; refine (i_isEpoch_yes x2 _ C2.out).mono ?_; rintro e w' ⟨rfl, rfl⟩))
         go_ret
         exact ⟨ret_bool HV.out, (Below.refl _ _).alloc (Nat.le_refl _) _⟩
     · have C2 := jd c2
       have HV := jd (show false = opB ⟨4, x1, x2, x3, x4⟩ by simp [opB, inB]; omega)
       clear c2
       go_enter Tryz.func172, Tryz.ntmps172
       go_wp2_with (first
        | (go_at_call 181; refine (i_isId_yes x1 _ C1.out).mono ?_; rintro e w' ⟨rfl, rfl⟩)
        | (go_at_call 182; refine (i_isEpoch_no x2 _ C2.out).mono ?_; rintro e w' ⟨rfl, rfl⟩))
       go_ret
       exact ⟨ret_bool HV.out, (Below.refl _ _).alloc (Nat.le_refl _) _⟩
   · have C1 := jd c1
     have HV := jd (show false = opB ⟨4, x1, x2, x3, x4⟩ by simp [opB, inB]; omega)
     clear c1
     go_enter Tryz.func172, Tryz.ntmps172
     go_wp2_with (first
      | (go_at_call 181; refine (i_isId_no x1 _ C1.out).mono ?_; rintro e w' ⟨rfl, rfl⟩))
     go_ret
     exact ⟨ret_bool HV.out, (Below.refl _ _).alloc (Nat.le_refl _) _⟩
 by_cases h5 : x0 = 5
 · subst h5
   by_cases c1 : 1 ≤ x1 ∧ x1 ≤ 1000
   · have C1 := jd c1
     by_cases c2 : x2 = 0
     · subst c2
       by_cases c3 : x3 = 0
       · subst c3
         by_cases c4 : x4 = 0
         · subst c4
           have HV := jd (show true = opB ⟨5, x1, 0, 0, 0⟩ by simp [opB, inB]; try omega)
           go_enter Tryz.func172, Tryz.ntmps172
           go_wp2_with (first
            | (go_at_call 183; refine (i_isLong_yes x1 _ C1.out).mono ?_; rintro e w' ⟨rfl, rfl⟩))
           go_ret
           exact ⟨ret_bool HV.out, (Below.refl _ _).alloc (Nat.le_refl _) _⟩
         · have HV := jd (show false = opB ⟨5, x1, 0, 0, x4⟩ by simp [opB, inB]; omega)
           have e4 : (x4 == 0) = false := by simpa using c4
           have d4 : decide (x4 = 0) = false := decide_eq_false c4
           go_enter Tryz.func172, Tryz.ntmps172
           go_wp2_with (first
            | (go_at_call 183; refine (i_isLong_yes x1 _ C1.out).mono ?_; rintro e w' ⟨rfl, rfl⟩))
           go_ret
           exact ⟨ret_bool HV.out, (Below.refl _ _).alloc (Nat.le_refl _) _⟩
       · have HV := jd (show false = opB ⟨5, x1, 0, x3, x4⟩ by simp [opB, inB]; omega)
         have e3 : (x3 == 0) = false := by simpa using c3
         have d3 : decide (x3 = 0) = false := decide_eq_false c3
         go_enter Tryz.func172, Tryz.ntmps172
         go_wp2_with (first
          | (go_at_call 183; refine (i_isLong_yes x1 _ C1.out).mono ?_; rintro e w' ⟨rfl, rfl⟩))
         go_ret
         exact ⟨ret_bool HV.out, (Below.refl _ _).alloc (Nat.le_refl _) _⟩
     · have HV := jd (show false = opB ⟨5, x1, x2, x3, x4⟩ by simp [opB, inB]; omega)
       have e2 : (x2 == 0) = false := by simpa using c2
       have d2 : decide (x2 = 0) = false := decide_eq_false c2
       go_enter Tryz.func172, Tryz.ntmps172
       go_wp2_with (first
        | (go_at_call 183; refine (i_isLong_yes x1 _ C1.out).mono ?_; rintro e w' ⟨rfl, rfl⟩))
       go_ret
       exact ⟨ret_bool HV.out, (Below.refl _ _).alloc (Nat.le_refl _) _⟩
   · have C1 := jd c1
     have HV := jd (show false = opB ⟨5, x1, x2, x3, x4⟩ by simp [opB, inB]; omega)
     clear c1
     go_enter Tryz.func172, Tryz.ntmps172
     go_wp2_with (first
      | (go_at_call 183; refine (i_isLong_no x1 _ C1.out).mono ?_; rintro e w' ⟨rfl, rfl⟩))
     go_ret
     exact ⟨ret_bool HV.out, (Below.refl _ _).alloc (Nat.le_refl _) _⟩
 have HV := jd (show false = opB ⟨x0, x1, x2, x3, x4⟩ by simp [opB, h1, h2, h3, h4, h5])
 have g1 : (x0 == 1) = false := by simpa using h1
 have g2 : (x0 == 2) = false := by simpa using h2
 have g3 : (x0 == 3) = false := by simpa using h3
 have g4 : (x0 == 4) = false := by simpa using h4
 have g5 : (x0 == 5) = false := by simpa using h5
 go_enter Tryz.func172, Tryz.ntmps172
 go_wp2
 go_ret
 exact ⟨ret_bool HV.out, (Below.refl _ _).alloc (Nat.le_refl _) _⟩
end Go.Proofs.YthjjdelpdiipdaaGreatDoor
