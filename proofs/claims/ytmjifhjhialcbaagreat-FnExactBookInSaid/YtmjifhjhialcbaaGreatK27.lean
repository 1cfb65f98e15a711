/- Parts of my texts: EntI1 EntI2. -/
import Derived.Test.YtmjifhjhialcbaaGreatK9
namespace Go.Proofs.YtmjifhjhialcbaaGreat
set_option maxRecDepth 100000
set_option linter.unusedVariables false
open Go.RowKit
theorem i_isKey_any (x : Int) (w : World) : Calls Tryz.prog 210 #[.int .i64 x] w fun e w' => e = .returned (.bool (inB x 0 9)) ∧ w = w' := by
 go_enter Tryz.func210, Tryz.ntmps210
 go_wp2
 all_goals
  go_ret
  refine ⟨ret_bool ?_, rfl⟩
  first | rfl | (simp_all [inB]; done) | (rw [Bool.eq_iff_iff]; simp_all [inB] <;> omega) | (simp_all [inB] <;> omega)
theorem i_isKey_yes (x : Int) (w : World) (h : 0 ≤ x ∧ x ≤ 9) : Calls Tryz.prog 210 #[.int .i64 x] w fun e w' => e = .returned (.bool true) ∧ w = w' := by
 have := i_isKey_any x w
 rw [(inB_iff _ _ _).2 h] at this
 exact this
theorem i_isKey_no (x : Int) (w : World) (h : ¬ (0 ≤ x ∧ x ≤ 9)) : Calls Tryz.prog 210 #[.int .i64 x] w fun e w' => e = .returned (.bool false) ∧ w = w' := by
 have := i_isKey_any x w
 rw [show inB x 0 9 = false from Bool.eq_false_iff.2 fun h9 => h ((inB_iff _ _ _).1 h9)] at this
 exact this
theorem i_isValue_any (x : Int) (w : World) : Calls Tryz.prog 211 #[.int .i64 x] w fun e w' => e = .returned (.bool (inB x 0 999)) ∧ w = w' := by
 go_enter Tryz.func211, Tryz.ntmps211
 go_wp2
 all_goals
  go_ret
  refine ⟨ret_bool ?_, rfl⟩
  first | rfl | (simp_all [inB]; done) | (rw [Bool.eq_iff_iff]; simp_all [inB] <;> omega) | (simp_all [inB] <;> omega)
theorem i_isValue_yes (x : Int) (w : World) (h : 0 ≤ x ∧ x ≤ 999) : Calls Tryz.prog 211 #[.int .i64 x] w fun e w' => e = .returned (.bool true) ∧ w = w' := by
 have := i_isValue_any x w
 rw [(inB_iff _ _ _).2 h] at this
 exact this
theorem i_isValue_no (x : Int) (w : World) (h : ¬ (0 ≤ x ∧ x ≤ 999)) : Calls Tryz.prog 211 #[.int .i64 x] w fun e w' => e = .returned (.bool false) ∧ w = w' := by
 have := i_isValue_any x w
 rw [show inB x 0 999 = false from Bool.eq_false_iff.2 fun h9 => h ((inB_iff _ _ _).1 h9)] at this
 exact this
theorem i_isId_any (x : Int) (w : World) : Calls Tryz.prog 212 #[.int .i64 x] w fun e w' => e = .returned (.bool (inB x 1 20)) ∧ w = w' := by
 go_enter Tryz.func212, Tryz.ntmps212
 go_wp2
 all_goals
  go_ret
  refine ⟨ret_bool ?_, rfl⟩
  first | rfl | (simp_all [inB]; done) | (rw [Bool.eq_iff_iff]; simp_all [inB] <;> omega) | (simp_all [inB] <;> omega)
theorem i_isId_yes (x : Int) (w : World) (h : 1 ≤ x ∧ x ≤ 20) : Calls Tryz.prog 212 #[.int .i64 x] w fun e w' => e = .returned (.bool true) ∧ w = w' := by
 have := i_isId_any x w
 rw [(inB_iff _ _ _).2 h] at this
 exact this
theorem i_isId_no (x : Int) (w : World) (h : ¬ (1 ≤ x ∧ x ≤ 20)) : Calls Tryz.prog 212 #[.int .i64 x] w fun e w' => e = .returned (.bool false) ∧ w = w' := by
 have := i_isId_any x w
 rw [show inB x 1 20 = false from Bool.eq_false_iff.2 fun h9 => h ((inB_iff _ _ _).1 h9)] at this
 exact this
theorem i_isEpoch_any (x : Int) (w : World) : Calls Tryz.prog 213 #[.int .i64 x] w fun e w' => e = .returned (.bool (inB x 0 1000)) ∧ w = w' := by
 go_enter Tryz.func213, Tryz.ntmps213
 go_wp2
 all_goals
  go_ret
  refine ⟨ret_bool ?_, rfl⟩
  first | rfl | (simp_all [inB]; done) | (rw [Bool.eq_iff_iff]; simp_all [inB] <;> omega) | (simp_all [inB] <;> omega)
theorem i_isEpoch_yes (x : Int) (w : World) (h : 0 ≤ x ∧ x ≤ 1000) : Calls Tryz.prog 213 #[.int .i64 x] w fun e w' => e = .returned (.bool true) ∧ w = w' := by
 have := i_isEpoch_any x w
 rw [(inB_iff _ _ _).2 h] at this
 exact this
theorem i_isEpoch_no (x : Int) (w : World) (h : ¬ (0 ≤ x ∧ x ≤ 1000)) : Calls Tryz.prog 213 #[.int .i64 x] w fun e w' => e = .returned (.bool false) ∧ w = w' := by
 have := i_isEpoch_any x w
 rw [show inB x 0 1000 = false from Bool.eq_false_iff.2 fun h9 => h ((inB_iff _ _ _).1 h9)] at this
 exact this
theorem i_isLong_any (x : Int) (w : World) : Calls Tryz.prog 214 #[.int .i64 x] w fun e w' => e = .returned (.bool (inB x 1 1000)) ∧ w = w' := by
 go_enter Tryz.func214, Tryz.ntmps214
 go_wp2
 all_goals
  go_ret
  refine ⟨ret_bool ?_, rfl⟩
  first | rfl | (simp_all [inB]; done) | (rw [Bool.eq_iff_iff]; simp_all [inB] <;> omega) | (simp_all [inB] <;> omega)
theorem i_isLong_yes (x : Int) (w : World) (h : 1 ≤ x ∧ x ≤ 1000) : Calls Tryz.prog 214 #[.int .i64 x] w fun e w' => e = .returned (.bool true) ∧ w = w' := by
 have := i_isLong_any x w
 rw [(inB_iff _ _ _).2 h] at this
 exact this
theorem i_isLong_no (x : Int) (w : World) (h : ¬ (1 ≤ x ∧ x ≤ 1000)) : Calls Tryz.prog 214 #[.int .i64 x] w fun e w' => e = .returned (.bool false) ∧ w = w' := by
 have := i_isLong_any x w
 rw [show inB x 1 1000 = false from Bool.eq_false_iff.2 fun h9 => h ((inB_iff _ _ _).1 h9)] at this
 exact this
theorem i_isIndex_any (x : Int) (w : World) : Calls Tryz.prog 128 #[.int .i64 x] w fun e w' => e = .returned (.bool (inB x 1 2000)) ∧ w = w' := by
 go_enter Tryz.func128, Tryz.ntmps128
 go_wp2
 all_goals
  go_ret
  refine ⟨ret_bool ?_, rfl⟩
  first | rfl | (simp_all [inB]; done) | (rw [Bool.eq_iff_iff]; simp_all [inB] <;> omega) | (simp_all [inB] <;> omega)
theorem i_isIndex_yes (x : Int) (w : World) (h : 1 ≤ x ∧ x ≤ 2000) : Calls Tryz.prog 128 #[.int .i64 x] w fun e w' => e = .returned (.bool true) ∧ w = w' := by
 have := i_isIndex_any x w
 rw [(inB_iff _ _ _).2 h] at this
 exact this
theorem i_isIndex_no (x : Int) (w : World) (h : ¬ (1 ≤ x ∧ x ≤ 2000)) : Calls Tryz.prog 128 #[.int .i64 x] w fun e w' => e = .returned (.bool false) ∧ w = w' := by
 have := i_isIndex_any x w
 rw [show inB x 1 2000 = false from Bool.eq_false_iff.2 fun h9 => h ((inB_iff _ _ _).1 h9)] at this
 exact this
theorem i_isSeq_any (x : Int) (w : World) : Calls Tryz.prog 127 #[.int .i64 x] w fun e w' => e = .returned (.bool (inB x 1 2000)) ∧ w = w' := by
 go_enter Tryz.func127, Tryz.ntmps127
 go_wp2
 all_goals
  go_ret
  refine ⟨ret_bool ?_, rfl⟩
  first | rfl | (simp_all [inB]; done) | (rw [Bool.eq_iff_iff]; simp_all [inB] <;> omega) | (simp_all [inB] <;> omega)
theorem i_isSeq_yes (x : Int) (w : World) (h : 1 ≤ x ∧ x ≤ 2000) : Calls Tryz.prog 127 #[.int .i64 x] w fun e w' => e = .returned (.bool true) ∧ w = w' := by
 have := i_isSeq_any x w
 rw [(inB_iff _ _ _).2 h] at this
 exact this
theorem i_isSeq_no (x : Int) (w : World) (h : ¬ (1 ≤ x ∧ x ≤ 2000)) : Calls Tryz.prog 127 #[.int .i64 x] w fun e w' => e = .returned (.bool false) ∧ w = w' := by
 have := i_isSeq_any x w
 rw [show inB x 1 2000 = false from Bool.eq_false_iff.2 fun h9 => h ((inB_iff _ _ _).1 h9)] at this
 exact this
theorem i_TimeOk_any (x : Int) (w : World) : Calls Tryz.prog 64 #[.int .i64 x] w fun e w' => e = .returned (.bool (inB x 0 1000000)) ∧ w = w' := by
 go_enter Tryz.func64, Tryz.ntmps64
 go_wp2
 all_goals
  go_ret
  refine ⟨ret_bool ?_, rfl⟩
  first | rfl | (simp_all [inB]; done) | (rw [Bool.eq_iff_iff]; simp_all [inB] <;> omega) | (simp_all [inB] <;> omega)
theorem i_TimeOk_yes (x : Int) (w : World) (h : 0 ≤ x ∧ x ≤ 1000000) : Calls Tryz.prog 64 #[.int .i64 x] w fun e w' => e = .returned (.bool true) ∧ w = w' := by
 have := i_TimeOk_any x w
 rw [(inB_iff _ _ _).2 h] at this
 exact this
theorem i_TimeOk_no (x : Int) (w : World) (h : ¬ (0 ≤ x ∧ x ≤ 1000000)) : Calls Tryz.prog 64 #[.int .i64 x] w fun e w' => e = .returned (.bool false) ∧ w = w' := by
 have := i_TimeOk_any x w
 rw [show inB x 0 1000000 = false from Bool.eq_false_iff.2 fun h9 => h ((inB_iff _ _ _).1 h9)] at this
 exact this
theorem i_AskerOk_any (x : Int) (w : World) : Calls Tryz.prog 126 #[.int .i64 x] w fun e w' => e = .returned (.bool (inB x 2 5)) ∧ w = w' := by
 go_enter Tryz.func126, Tryz.ntmps126
 go_wp2
 all_goals
  go_ret
  refine ⟨ret_bool ?_, rfl⟩
  first | rfl | (simp_all [inB]; done) | (rw [Bool.eq_iff_iff]; simp_all [inB] <;> omega) | (simp_all [inB] <;> omega)
theorem i_AskerOk_yes (x : Int) (w : World) (h : 2 ≤ x ∧ x ≤ 5) : Calls Tryz.prog 126 #[.int .i64 x] w fun e w' => e = .returned (.bool true) ∧ w = w' := by
 have := i_AskerOk_any x w
 rw [(inB_iff _ _ _).2 h] at this
 exact this
theorem i_AskerOk_no (x : Int) (w : World) (h : ¬ (2 ≤ x ∧ x ≤ 5)) : Calls Tryz.prog 126 #[.int .i64 x] w fun e w' => e = .returned (.bool false) ∧ w = w' := by
 have := i_AskerOk_any x w
 rw [show inB x 2 5 = false from Bool.eq_false_iff.2 fun h9 => h ((inB_iff _ _ _).1 h9)] at this
 exact this
set_option maxHeartbeats 6400000 in
theorem iFits_any (x0 x1 x2 x3 x4 : Int) (w : World) :
    Calls Tryz.prog 169 #[.agg #[.int .i64 x0, .int .i64 x1, .int .i64 x2, .int .i64 x3, .int .i64 x4]] w fun e w' => e = .returned (.bool (opB ⟨x0, x1, x2, x3, x4⟩)) ∧ Below w.heap.size w w' := by
 by_cases h1 : x0 = 1
 · subst h1
   by_cases c1 : 0 ≤ x1 ∧ x1 ≤ 9
   · have C1 := jd c1
     by_cases c2 : 0 ≤ x2 ∧ x2 ≤ 999
     · have C2 := jd c2
       by_cases c3 : x3 = 0
       · subst c3
         by_cases c4 : x4 = 0
         · subst c4
           have HV := jd (show true = opB ⟨1, x1, x2, 0, 0⟩ by simp [opB, inB]; try omega)
           go_enter Tryz.func169, Tryz.ntmps169
           go_wp2_with (first
            | (go_at_call 210; refine (i_isKey_yes x1 _ C1.out).mono ?_; rintro e w' ⟨rfl, rfl⟩)
            | (go_at_call 211; refine (i_isValue_yes x2 _ C2.out).mono ?_; rintro e w' ⟨rfl, rfl⟩))
           go_ret
           exact ⟨ret_bool HV.out, (Below.refl _ _).alloc (Nat.le_refl _) _⟩
         · have HV := jd (show false = opB ⟨1, x1, x2, 0, x4⟩ by simp [opB, inB]; omega)
           have e4 : (x4 == 0) = false := by simpa using c4
           have d4 : decide (x4 = 0) = false := decide_eq_false c4
           go_enter Tryz.func169, Tryz.ntmps169
           go_wp2_with (first
            | (go_at_call 210; refine (i_isKey_yes x1 _ C1.out).mono ?_; rintro e w' ⟨rfl, rfl⟩)
            | (go_at_call 211; refine (i_isValue_yes x2 _ C2.out).mono ?_; rintro e w' ⟨rfl, rfl⟩))
           go_ret
           exact ⟨ret_bool HV.out, (Below.refl _ _).alloc (Nat.le_refl _) _⟩
       · have HV := jd (show false = opB ⟨1, x1, x2, x3, x4⟩ by simp [opB, inB]; omega)
         have e3 : (x3 == 0) = false := by simpa using c3
         have d3 : decide (x3 = 0) = false := decide_eq_false c3
         go_enter Tryz.func169, Tryz.ntmps169
         go_wp2_with (first
          | (go_at_call 210; refine (i_isKey_yes x1 _ C1.out).mono ?_; rintro e w' ⟨rfl, rfl⟩)
          | (go_at_call 211; refine (i_isValue_yes x2 _ C2.out).mono ?_; rintro e w' ⟨rfl, rfl⟩))
         go_ret
         exact ⟨ret_bool HV.out, (Below.refl _ _).alloc (Nat.le_refl _) _⟩
     · have C2 := jd c2
       have HV := jd (show false = opB ⟨1, x1, x2, x3, x4⟩ by simp [opB, inB]; omega)
       clear c2
       go_enter Tryz.func169, Tryz.ntmps169
       go_wp2_with (first
        | (go_at_call 210; refine (i_isKey_yes x1 _ C1.out).mono ?_; rintro e w' ⟨rfl, rfl⟩)
        | (go_at_call 211; refine (i_isValue_no x2 _ C2.out).mono ?_; rintro e w' ⟨rfl, rfl⟩))
       go_ret
       exact ⟨ret_bool HV.out, (Below.refl _ _).alloc (Nat.le_refl _) _⟩
   · have C1 := jd c1
     have HV := jd (show false = opB ⟨1, x1, x2, x3, x4⟩ by simp [opB, inB]; omega)
     clear c1
     go_enter Tryz.func169, Tryz.ntmps169
     go_wp2_with (first
      | (go_at_call 210; refine (i_isKey_no x1 _ C1.out).mono ?_; rintro e w' ⟨rfl, rfl⟩))
     go_ret
     exact ⟨ret_bool HV.out, (Below.refl _ _).alloc (Nat.le_refl _) _⟩
 by_cases h2 : x0 = 2
 · subst h2
   by_cases c1 : 0 ≤ x1 ∧ x1 ≤ 9
   · have C1 := jd c1
     by_cases c2 : x2 = 0
     · subst c2
       by_cases c3 : x3 = 0
       · subst c3
         by_cases c4 : x4 = 0
         · subst c4
           have HV := jd (show true = opB ⟨2, x1, 0, 0, 0⟩ by simp [opB, inB]; try omega)
           go_enter Tryz.func169, Tryz.ntmps169
           go_wp2_with (first
            | (go_at_call 210; refine (i_isKey_yes x1 _ C1.out).mono ?_; rintro e w' ⟨rfl, rfl⟩))
           go_ret
           exact ⟨ret_bool HV.out, (Below.refl _ _).alloc (Nat.le_refl _) _⟩
         · have HV := jd (show false = opB ⟨2, x1, 0, 0, x4⟩ by simp [opB, inB]; omega)
           have e4 : (x4 == 0) = false := by simpa using c4
           have d4 : decide (x4 = 0) = false := decide_eq_false c4
           go_enter Tryz.func169, Tryz.ntmps169
           go_wp2_with (first
            | (go_at_call 210; refine (i_isKey_yes x1 _ C1.out).mono ?_; rintro e w' ⟨rfl, rfl⟩))
           go_ret
           exact ⟨ret_bool HV.out, (Below.refl _ _).alloc (Nat.le_refl _) _⟩
       · have HV := jd (show false = opB ⟨2, x1, 0, x3, x4⟩ by simp [opB, inB]; omega)
         have e3 : (x3 == 0) = false := by simpa using c3
         have d3 : decide (x3 = 0) = false := decide_eq_false c3
         go_enter Tryz.func169, Tryz.ntmps169
         go_wp2_with (first
          | (go_at_call 210; refine (i_isKey_yes x1 _ C1.out).mono ?_; rintro e w' ⟨rfl, rfl⟩))
         go_ret
         exact ⟨ret_bool HV.out, (Below.refl _ _).alloc (Nat.le_refl _) _⟩
     · have HV := jd (show false = opB ⟨2, x1, x2, x3, x4⟩ by simp [opB, inB]; omega)
       have e2 : (x2 == 0) = false := by simpa using c2
       have d2 : decide (x2 = 0) = false := decide_eq_false c2
       go_enter Tryz.func169, Tryz.ntmps169
       go_wp2_with (first
        | (go_at_call 210; refine (i_isKey_yes x1 _ C1.out).mono ?_; rintro e w' ⟨rfl, rfl⟩))
       go_ret
       exact ⟨ret_bool HV.out, (Below.refl _ _).alloc (Nat.le_refl _) _⟩
   · have C1 := jd c1
     have HV := jd (show false = opB ⟨2, x1, x2, x3, x4⟩ by simp [opB, inB]; omega)
     clear c1
     go_enter Tryz.func169, Tryz.ntmps169
     go_wp2_with (first
      | (go_at_call 210; refine (i_isKey_no x1 _ C1.out).mono ?_; rintro e w' ⟨rfl, rfl⟩))
     go_ret
     exact ⟨ret_bool HV.out, (Below.refl _ _).alloc (Nat.le_refl _) _⟩
 by_cases h3 : x0 = 3
 · subst h3
   by_cases c1 : 1 ≤ x1 ∧ x1 ≤ 20
   · have C1 := jd c1
     by_cases c2 : 0 ≤ x2 ∧ x2 ≤ 1000000
     · have C2 := jd c2
       by_cases c3 : 0 ≤ x3 ∧ x3 ≤ 9
       · have C3 := jd c3
         by_cases c4 : 0 ≤ x4 ∧ x4 ≤ 999
         · have C4 := jd c4
           have HV := jd (show true = opB ⟨3, x1, x2, x3, x4⟩ by simp [opB, inB]; try omega)
           go_enter Tryz.func169, Tryz.ntmps169
           go_wp2_with (first
            | (go_at_call 212; refine (i_isId_yes x1 _ C1.out).mono ?_; rintro e w' ⟨rfl, rfl⟩)
            | (go_at_call 64; refine (i_TimeOk_yes x2 _ C2.out).mono ?_; rintro e w' ⟨rfl, rfl⟩)
            | (go_at_call 210; refine (i_isKey_yes x3 _ C3.out).mono ?_; rintro e w' ⟨rfl, rfl⟩)
            | (go_at_call 211; refine (i_isValue_yes x4 _ C4.out).mono ?_; rintro e w' ⟨rfl, rfl⟩))
           go_ret
           exact ⟨ret_bool HV.out, (Below.refl _ _).alloc (Nat.le_refl _) _⟩
         · have C4 := jd c4
           have HV := jd (show false = opB ⟨3, x1, x2, x3, x4⟩ by simp [opB, inB]; omega)
           clear c4
           go_enter Tryz.func169, Tryz.ntmps169
           go_wp2_with (first
            | (go_at_call 212; refine (i_isId_yes x1 _ C1.out).mono ?_; rintro e w' ⟨rfl, rfl⟩)
            | (go_at_call 64; refine (i_TimeOk_yes x2 _ C2.out).mono ?_; rintro e w' ⟨rfl, rfl⟩)
            | (go_at_call 210; refine (i_isKey_yes x3 _ C3.out).mono ?_; rintro e w' ⟨rfl, rfl⟩)
            | (go_at_call 211; refine (i_isValue_no x4 _ C4.out).mono ?_; rintro e w' ⟨rfl, rfl⟩))
           go_ret
           exact ⟨ret_bool HV.out, (Below.refl _ _).alloc (Nat.le_refl _) _⟩
       · have C3 := jd c3
         have HV := jd (show false = opB ⟨3, x1, x2, x3, x4⟩ by simp [opB, inB]; omega)
         clear c3
         go_enter Tryz.func169, Tryz.ntmps169
         go_wp2_with (first
          | (go_at_call 212; refine (i_isId_yes x1 _ C1.out).mono ?_; rintro e w' ⟨rfl, rfl⟩)
          | (go_at_call 64; refine (i_TimeOk_yes x2 _ C2.out).mono ?_; rintro e w' ⟨rfl, rfl⟩)
          | (go_at_call 210; refine (i_isKey_no x3 _ C3.out).mono ?_; rintro e w' ⟨rfl, rfl⟩))
         go_ret
         exact ⟨ret_bool HV.out, (Below.refl _ _).alloc (Nat.le_refl _) _⟩
     · have C2 := jd c2
       have HV := jd (show false = opB ⟨3, x1, x2, x3, x4⟩ by simp [opB, inB]; omega)
       clear c2
       go_enter Tryz.func169, Tryz.ntmps169
       go_wp2_with (first
        | (go_at_call 212; refine (i_isId_yes x1 _ C1.out).mono ?_; rintro e w' ⟨rfl, rfl⟩)
        | (go_at_call 64; refine (i_TimeOk_no x2 _ C2.out).mono ?_; rintro e w' ⟨rfl, rfl⟩))
       go_ret
       exact ⟨ret_bool HV.out, (Below.refl _ _).alloc (Nat.le_refl _) _⟩
   · have C1 := jd c1
     have HV := jd (show false = opB ⟨3, x1, x2, x3, x4⟩ by simp [opB, inB]; omega)
     clear c1
     go_enter Tryz.func169, Tryz.ntmps169
     go_wp2_with (first
      | (go_at_call 212; refine (i_isId_no x1 _ C1.out).mono ?_; rintro e w' ⟨rfl, rfl⟩))
     go_ret
     exact ⟨ret_bool HV.out, (Below.refl _ _).alloc (Nat.le_refl _) _⟩
 by_cases h4 : x0 = 4
 · subst h4
   by_cases c1 : 1 ≤ x1 ∧ x1 ≤ 20
   · have C1 := jd c1
     by_cases c2 : 0 ≤ x2 ∧ x2 ≤ 1000
     · have C2 := jd c2
       by_cases c3 : x3 = 0
       · subst c3
         by_cases c4 : x4 = 0
         · subst c4
           have HV := jd (show true = opB ⟨4, x1, x2, 0, 0⟩ by simp [opB, inB]; try omega)
           go_enter Tryz.func169, Tryz.ntmps169
           go_wp2_with (first
            | (go_at_call 212; refine (i_isId_yes x1 _ C1.out).mono ?_; rintro e w' ⟨rfl, rfl⟩)
            | (go_at_call 213; refine (i_isEpoch_yes x2 _ C2.out).mono ?_; rintro e w' ⟨rfl, rfl⟩))
           go_ret
           exact ⟨ret_bool HV.out, (Below.refl _ _).alloc (Nat.le_refl _) _⟩
         · have HV := jd (show false = opB ⟨4, x1, x2, 0, x4⟩ by simp [opB, inB]; omega)
           have e4 : (x4 == 0) = false := by simpa using c4
           have d4 : decide (x4 = 0) = false := decide_eq_false c4
           go_enter Tryz.func169, Tryz.ntmps169
           go_wp2_with (first
            | (go_at_call 212; refine (i_isId_yes x1 _ C1.out).mono ?_; rintro e w' ⟨rfl, rfl⟩)
            | (go_at_call 213; refine (i_isEpoch_yes x2 _ C2.out).mono ?_; rintro e w' ⟨rfl, rfl⟩))
           go_ret
           exact ⟨ret_bool HV.out, (Below.refl _ _).alloc (Nat.le_refl _) _⟩
       · have HV := jd (show false = opB ⟨4, x1, x2, x3, x4⟩ by simp [opB, inB]; omega)
         have e3 : (x3 == 0) = false := by simpa using c3
         have d3 : decide (x3 = 0) = false := decide_eq_false c3
         go_enter Tryz.func169, Tryz.ntmps169
         go_wp2_with (first
          | (go_at_call 212; refine (i_isId_yes x1 _ C1.out).mono ?_; rintro e w' ⟨rfl, rfl⟩)
          | (go_at_call 213; refine (i_isEpoch_yes x2 _ C2.out).mono ?_; rintro e w' ⟨rfl, rfl⟩))
         go_ret
         exact ⟨ret_bool HV.out, (Below.refl _ _).alloc (Nat.le_refl _) _⟩
     · have C2 := jd c2
       have HV := jd (show false = opB ⟨4, x1, x2, x3, x4⟩ by simp [opB, inB]; omega)
       clear c2
       go_enter Tryz.func169, Tryz.ntmps169
       go_wp2_with (first
        | (go_at_call 212; refine (i_isId_yes x1 _ C1.out).mono ?_; rintro e w' ⟨rfl, rfl⟩)
        | (go_at_call 213; refine (i_isEpoch_no x2 _ C2.out).mono ?_; rintro e w' ⟨rfl, rfl⟩))
       go_ret
       exact ⟨ret_bool HV.out, (Below.refl _ _).alloc (Nat.le_refl _) _⟩
   · have C1 := jd c1
     have HV := jd (show false = opB ⟨4, x1, x2, x3, x4⟩ by simp [opB, inB]; omega)
     clear c1
     go_enter Tryz.func169, Tryz.ntmps169
     go_wp2_with (first
      | (go_at_call 212; refine (i_isId_no x1 _ C1.out).mono ?_; rintro e w' ⟨rfl, rfl⟩))
     go_ret
     exact ⟨ret_bool HV.out, (Below.refl _ _).alloc (Nat.le_refl _) _⟩
 by_cases h5 : x0 = 5
 · subst h5
   by_cases c1 : 1 ≤ x1 ∧ x1 ≤ 1000
   · have C1 := jd c1
     by_cases c2 : x2 = 0
     · subst c2
       by_cases c3 : x3 = 0
       · subst c3
         by_cases c4 : x4 = 0
         · subst c4
           have HV := jd (show true = opB ⟨5, x1, 0, 0, 0⟩ by simp [opB, inB]; try omega)
           go_enter Tryz.func169, Tryz.ntmps169
           go_wp2_with (first
            | (go_at_call 214; refine (i_isLong_yes x1 _ C1.out).mono ?_; rintro e w' ⟨rfl, rfl⟩))
           go_ret
           exact ⟨ret_bool HV.out, (Below.refl _ _).alloc (Nat.le_refl _) _⟩
         · have HV := jd (show false = opB ⟨5, x1, 0, 0, x4⟩ by simp [opB, inB]; omega)
           have e4 : (x4 == 0) = false := by simpa using c4
           have d4 : decide (x4 = 0) = false := decide_eq_false c4
           go_enter Tryz.func169, Tryz.ntmps169
           go_wp2_with (first
            | (go_at_call 214; refine (i_isLong_yes x1 _ C1.out).mono ?_; rintro e w' ⟨rfl, rfl⟩))
           go_ret
           exact ⟨ret_bool HV.out, (Below.refl _ _).alloc (Nat.le_refl _) _⟩
       · have HV := jd (show false = opB ⟨5, x1, 0, x3, x4⟩ by simp [opB, inB]; omega)
         have e3 : (x3 == 0) = false := by simpa using c3
         have d3 : decide (x3 = 0) = false := decide_eq_false c3
         go_enter Tryz.func169, Tryz.ntmps169
         go_wp2_with (first
          | (go_at_call 214; refine (i_isLong_yes x1 _ C1.out).mono ?_; rintro e w' ⟨rfl, rfl⟩))
         go_ret
         exact ⟨ret_bool HV.out, (Below.refl _ _).alloc (Nat.le_refl _) _⟩
     · have HV := jd (show false = opB ⟨5, x1, x2, x3, x4⟩ by simp [opB, inB]; omega)
       have e2 : (x2 == 0) = false := by simpa using c2
       have d2 : decide (x2 = 0) = false := decide_eq_false c2
       go_enter Tryz.func169, Tryz.ntmps169
       go_wp2_with (first
        | (go_at_call 214; refine (i_isLong_yes x1 _ C1.out).mono ?_; rintro e w' ⟨rfl, rfl⟩))
       go_ret
       exact ⟨ret_bool HV.out, (Below.refl _ _).alloc (Nat.le_refl _) _⟩
   · have C1 := jd c1
     have HV := jd (show false = opB ⟨5, x1, x2, x3, x4⟩ by simp [opB, inB]; omega)
     clear c1
     go_enter Tryz.func169, Tryz.ntmps169
     go_wp2_with (first
      | (go_at_call 214; refine (i_isLong_no x1 _ C1.out).mono ?_; rintro e w' ⟨rfl, rfl⟩))
     go_ret
     exact ⟨ret_bool HV.out, (Below.refl _ _).alloc (Nat.le_refl _) _⟩
 have HV := jd (show false = opB ⟨x0, x1, x2, x3, x4⟩ by simp [opB, h1, h2, h3, h4, h5])
 have g1 : (x0 == 1) = false := by simpa using h1
 have g2 : (x0 == 2) = false := by simpa using h2
 have g3 : (x0 == 3) = false := by simpa using h3
 have g4 : (x0 == 4) = false := by simpa using h4
 have g5 : (x0 == 5) = false := by simpa using h5
 go_enter Tryz.func169, Tryz.ntmps169
 go_wp2
 go_ret
 exact ⟨ret_bool HV.out, (Below.refl _ _).alloc (Nat.le_refl _) _⟩
theorem iNums_any (x0 x1 x2 x3 x4 : Int) (w : World) :
    Calls Tryz.prog 207 #[.agg #[.int .i64 x0, .int .i64 x1, .int .i64 x2, .int .i64 x3, .int .i64 x4]] w fun e w' => ∃ (A : Option Addr) (n c : Nat), e = .returned (.slice A n c) ∧ Has w' w.heap.size (rowCells (opNs ⟨x0, x1, x2, x3, x4⟩)) [.slice A n c] ∧ Below w.heap.size w w' := by
 have S := Sep.nil w w.heap.size
 have c := Below.refl w.heap.size w
 replace S := S.boxAt c.size (w.heap.size) rfl #[.int .i64 x0, .int .i64 x1, .int .i64 x2, .int .i64 x3, .int .i64 x4] 85
 replace c := al c S
 have H := jd ((has_lit (w.alloc (.cells #[.int .i64 x0, .int .i64 x1, .int .i64 x2, .int .i64 x3, .int .i64 x4] 85)) [x0, x1, x2, x3, x4] (by simp)).up c.size)
 have C := jd (c.alloc c.size (.cells #[.int .i64 x0, .int .i64 x1, .int .i64 x2, .int .i64 x3, .int .i64 x4] 2))
 clear S c
 go_enter Tryz.func207, Tryz.ntmps207
 have h9 := H.out
 rw [show (w.alloc (.cells #[.int .i64 x0, .int .i64 x1, .int .i64 x2, .int .i64 x3, .int .i64 x4] 85)).heap.size = w.heap.size + 1 by simp] at h9
 have H9 := jd h9
 clear h9 H
 go_wp2
 go_ret
 exact ⟨_, _, _, rfl, H9.out, C.out⟩
theorem has_nil_rowE (w : World) (base : Nat) : Has w base (rowCells []) [.slice none 0 0] := ⟨[], ow_nil_row w, List.nodup_nil, fun p hp => by cases hp⟩
set_option maxHeartbeats 6400000 in
theorem iOpOf_any (b off cc B : Nat) (x0 x1 x2 x3 x4 : Int) (d : List Int) (hx : ofOp d = ⟨x0, x1, x2, x3, x4⟩) (w : World) (h : IRow w B (some ⟨b, off, none⟩) 5 d) (hB : B ≤ w.heap.size) :
    Calls Tryz.prog 245 #[.slice (some ⟨b, off, none⟩) 5 cc] w fun e w' => e = .returned (.agg #[.int .i64 x0, .int .i64 x1, .int .i64 x2, .int .i64 x3, .int .i64 x4]) ∧ Below w.heap.size w w' := by
 obtain ⟨b', off', e, hb, hc⟩ := h.2 (by omega)
 injection e with e
 injection e with e1 e2
 subst e1 e2
 unfold ofOp at hx
 injection hx with q0 q1 q2 q3 q4
 have k0 := hc 0 (by omega)
 rw [q0] at k0
 have k1 := hc 1 (by omega)
 rw [q1] at k1
 have k2 := hc 2 (by omega)
 rw [q2] at k2
 have k3 := hc 3 (by omega)
 rw [q3] at k3
 have k4 := hc 4 (by omega)
 rw [q4] at k4
 rw [Nat.add_zero] at k0
 clear hc h q0 q1 q2 q3 q4
 have S := Sep.nil w w.heap.size
 have c := Below.refl w.heap.size w
 replace S := S.boxAt c.size (w.heap.size) rfl #[.int .i64 0, .int .i64 0, .int .i64 0, .int .i64 0, .int .i64 0] 85
 replace c := al c S
 go_enter Tryz.func245, Tryz.ntmps245
 go_wp2_with fail
 generalize w.alloc (.cells #[.int .i64 0, .int .i64 0, .int .i64 0, .int .i64 0, .int .i64 0] 85) = w1 at *
 refine wp_region_L (fun v => v.cell? ⟨b, off, none⟩ = some (.int .i64 x0) ∧ v.cell? ⟨b, off + 1, none⟩ = some (.int .i64 x1) ∧ v.cell? ⟨b, off + 2, none⟩ = some (.int .i64 x2) ∧ v.cell? ⟨b, off + 3, none⟩ = some (.int .i64 x3) ∧ v.cell? ⟨b, off + 4, none⟩ = some (.int .i64 x4)) 16 (by kernel_rfl) ?_
 replace S := S.keep ((Below.refl _ _).drew)
 replace c := c.drew
 generalize w1.drew = w2 at *
 have HF : w2.cell? ⟨b, off, none⟩ = some (.int .i64 x0) ∧ w2.cell? ⟨b, off + 1, none⟩ = some (.int .i64 x1) ∧ w2.cell? ⟨b, off + 2, none⟩ = some (.int .i64 x2) ∧ w2.cell? ⟨b, off + 3, none⟩ = some (.int .i64 x3) ∧ w2.cell? ⟨b, off + 4, none⟩ = some (.int .i64 x4) := ⟨cu c k0 (show b < _ by omega), cu c k1 (show b < _ by omega), cu c k2 (show b < _ by omega), cu c k3 (show b < _ by omega), cu c k4 (show b < _ by omega)⟩
 refine tk 0 (v := ?_) rfl rfl HF (.inl ⟨by rfl, ?_⟩) ?_
 rotate_left 1
 · (rintro v ⟨a0, a1, a2, a3, a4⟩; go_simp; try with_reducible rfl)
 try simp only [Act.put]
 refine tk 1 (v := ?_) rfl rfl HF (.inl ⟨by rfl, ?_⟩) ?_
 rotate_left 1
 · (rintro v ⟨a0, a1, a2, a3, a4⟩; go_simp; try with_reducible rfl)
 try simp only [Act.put]
 refine tk 2 (v := ?_) rfl rfl HF (.inl ⟨by rfl, ?_⟩) ?_
 rotate_left 1
 · (rintro v ⟨a0, a1, a2, a3, a4⟩; go_simp; try with_reducible rfl)
 try simp only [Act.put]
 refine tk 3 (v := ?_) rfl rfl HF (.inl ⟨by rfl, ?_⟩) ?_
 rotate_left 1
 · (rintro v ⟨a0, a1, a2, a3, a4⟩; go_simp; try with_reducible rfl)
 try simp only [Act.put]
 refine tk 4 (v := ?_) rfl rfl HF (.inl ⟨by rfl, ?_⟩) ?_
 rotate_left 1
 · (rintro v ⟨a0, a1, a2, a3, a4⟩; go_simp; try with_reducible rfl)
 try simp only [Act.put]
 refine tk 5 (v := ?_) rfl rfl HF (.inl ⟨by rfl, ?_⟩) ?_
 rotate_left 1
 · (rintro v ⟨a0, a1, a2, a3, a4⟩; go_simp; try with_reducible rfl)
 try simp only [Act.put]
 refine tk 6 (v := ?_) rfl rfl HF (.inl ⟨by rfl, ?_⟩) ?_
 rotate_left 1
 · (rintro v ⟨a0, a1, a2, a3, a4⟩; go_simp; try with_reducible rfl)
 try simp only [Act.put]
 refine tk 7 (v := ?_) rfl rfl HF (.inl ⟨by rfl, ?_⟩) ?_
 rotate_left 1
 · (rintro v ⟨a0, a1, a2, a3, a4⟩; go_simp; try with_reducible rfl)
 try simp only [Act.put]
 refine tk 8 (v := ?_) rfl rfl HF (.inl ⟨by rfl, ?_⟩) ?_
 rotate_left 1
 · (rintro v ⟨a0, a1, a2, a3, a4⟩; go_simp; try with_reducible rfl)
 try simp only [Act.put]
 refine tk 9 (v := ?_) rfl rfl HF (.inl ⟨by rfl, ?_⟩) ?_
 rotate_left 1
 · (rintro v ⟨a0, a1, a2, a3, a4⟩; go_simp; try with_reducible rfl)
 try simp only [Act.put]
 refine tk 10 (v := ?_) rfl rfl HF (.inl ⟨by rfl, ?_⟩) ?_
 rotate_left 1
 · (rintro v ⟨a0, a1, a2, a3, a4⟩; go_simp; try with_reducible rfl)
 try simp only [Act.put]
 refine tk 11 (v := ?_) rfl rfl HF (.inl ⟨by rfl, ?_⟩) ?_
 rotate_left 1
 · (rintro v ⟨a0, a1, a2, a3, a4⟩; go_simp; try with_reducible rfl)
 try simp only [Act.put]
 refine tk 12 (v := ?_) rfl rfl HF (.inl ⟨by rfl, ?_⟩) ?_
 rotate_left 1
 · (rintro v ⟨a0, a1, a2, a3, a4⟩; go_simp; try with_reducible rfl)
 try simp only [Act.put]
 refine tk 13 (v := ?_) rfl rfl HF (.inl ⟨by rfl, ?_⟩) ?_
 rotate_left 1
 · (rintro v ⟨a0, a1, a2, a3, a4⟩; go_simp; try with_reducible rfl)
 try simp only [Act.put]
 refine tk 14 (v := ?_) rfl rfl HF (.inl ⟨by rfl, ?_⟩) ?_
 rotate_left 1
 · (rintro v ⟨a0, a1, a2, a3, a4⟩; go_simp; try with_reducible rfl)
 try simp only [Act.put]
 refine tk 15 (v := ?_) rfl rfl HF (.inl ⟨by rfl, ?_⟩) ?_
 rotate_left 1
 · (rintro v ⟨a0, a1, a2, a3, a4⟩; go_simp; try with_reducible rfl)
 try simp only [Act.put]
 have f0 := lk S 0 0 rfl rfl
 have f1 := (S.at_ 0 rfl).free 0
 have f2 := lk S 0 1 rfl rfl
 have f3 := (S.at_ 0 rfl).free 1
 have f4 := lk S 0 2 rfl rfl
 have f5 := (S.at_ 0 rfl).free 2
 have f6 := lk S 0 3 rfl rfl
 have f7 := (S.at_ 0 rfl).free 3
 have f8 := lk S 0 4 rfl rfl
 have f9 := (S.at_ 0 rfl).free 4
 refine wpAnyL_step (i := 16) (by kernel_rfl) rfl rfl ?_
 intro K hK
 go_simp
 refine hK _ _ (fun h => nomatch (show true = false from h)) ?_
 clear hK K
 try simp only [Act.put]
 refine wpAnyL_done (by kernel_rfl) ?_ _
 replace S := S.put 0 rfl 0 (.int .i64 x0)
 replace c := st c S (by omega)
 replace S := S.put 0 rfl 1 (.int .i64 x1)
 replace c := st c S (by omega)
 replace S := S.put 0 rfl 2 (.int .i64 x2)
 replace c := st c S (by omega)
 replace S := S.put 0 rfl 3 (.int .i64 x3)
 replace c := st c S (by omega)
 replace S := S.put 0 rfl 4 (.int .i64 x4)
 replace c := st c S (by omega)
 clear HF
 generalize ((((w2.setCell ⟨w.heap.size, 0, none⟩ (.int .i64 x0)).setCell ⟨w.heap.size, 1, none⟩ (.int .i64 x1)).setCell ⟨w.heap.size, 2, none⟩ (.int .i64 x2)).setCell ⟨w.heap.size, 3, none⟩ (.int .i64 x3)).setCell ⟨w.heap.size, 4, none⟩ (.int .i64 x4) = w3 at *
 clear f0 f1 f2 f3 f4 f5 f6 f7 f8 f9
 have r0 := jd ((S.at_ 0 rfl).cell 0)
 have r1 := jd ((S.at_ 0 rfl).cell 1)
 have r2 := jd ((S.at_ 0 rfl).cell 2)
 have r3 := jd ((S.at_ 0 rfl).cell 3)
 have r4 := jd ((S.at_ 0 rfl).cell 4)
 have C := jd c
 clear S c
 go_wp2
 exact bodyPost_ret (v := .agg #[.int .i64 x0, .int .i64 x1, .int .i64 x2, .int .i64 x3, .int .i64 x4]) (by simp [results, Tryz.results245, go_sem, r0.out, r1.out, r2.out, r3.out, r4.out]) rfl ⟨rfl, C.out⟩
end Go.Proofs.YtmjifhjhialcbaaGreat
