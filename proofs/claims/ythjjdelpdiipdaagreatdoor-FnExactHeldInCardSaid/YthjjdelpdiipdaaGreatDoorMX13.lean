/- Parts of my texts: EntS1 EntS2. -/
import Derived.Test.YthjjdelpdiipdaaGreatDoorMX8
namespace Go.Proofs.YthjjdelpdiipdaaGreatDoor
set_option maxRecDepth 100000
set_option linter.unusedVariables false
open Go.RowKit
theorem in_yes (x a b : Int) (w : World) (h : a ≤ x ∧ x ≤ b) : Calls Tryz.prog 33 #[.int .i64 x, .int .i64 a, .int .i64 b] w fun e w' => e = .returned (.bool true) ∧ w = w' := by
 have := in_any x a b w
 rw [decide_eq_true h.1, decide_eq_true h.2] at this
 exact this
theorem in_no (x a b : Int) (w : World) (h : ¬ (a ≤ x ∧ x ≤ b)) : Calls Tryz.prog 33 #[.int .i64 x, .int .i64 a, .int .i64 b] w fun e w' => e = .returned (.bool false) ∧ w = w' := by
 have := in_any x a b w
 rw [show (decide (a ≤ x) && decide (x ≤ b)) = false by simp; omega] at this
 exact this
theorem l7Key_yes (x : Int) (w : World) (h : 0 ≤ x ∧ x ≤ 9) : Calls Tryz.prog 169 #[.int .i64 x] w fun e w' => e = .returned (.bool true) ∧ w = w' := by
 have H := jd h
 clear h
 go_enter Tryz.func169, Tryz.ntmps169
 go_wp2_with (first | (go_at_call 33; refine (in_yes x 0 9 _ H.out).mono ?_; rintro e w' ⟨rfl, rfl⟩))
 go_ret
 exact ⟨rfl, rfl⟩
theorem l7Key_no (x : Int) (w : World) (h : ¬ (0 ≤ x ∧ x ≤ 9)) : Calls Tryz.prog 169 #[.int .i64 x] w fun e w' => e = .returned (.bool false) ∧ w = w' := by
 have H := jd h
 clear h
 go_enter Tryz.func169, Tryz.ntmps169
 go_wp2_with (first | (go_at_call 33; refine (in_no x 0 9 _ H.out).mono ?_; rintro e w' ⟨rfl, rfl⟩))
 go_ret
 exact ⟨rfl, rfl⟩
theorem l7Value_yes (x : Int) (w : World) (h : 0 ≤ x ∧ x ≤ 999) : Calls Tryz.prog 170 #[.int .i64 x] w fun e w' => e = .returned (.bool true) ∧ w = w' := by
 have H := jd h
 clear h
 go_enter Tryz.func170, Tryz.ntmps170
 go_wp2_with (first | (go_at_call 33; refine (in_yes x 0 999 _ H.out).mono ?_; rintro e w' ⟨rfl, rfl⟩))
 go_ret
 exact ⟨rfl, rfl⟩
theorem l7Value_no (x : Int) (w : World) (h : ¬ (0 ≤ x ∧ x ≤ 999)) : Calls Tryz.prog 170 #[.int .i64 x] w fun e w' => e = .returned (.bool false) ∧ w = w' := by
 have H := jd h
 clear h
 go_enter Tryz.func170, Tryz.ntmps170
 go_wp2_with (first | (go_at_call 33; refine (in_no x 0 999 _ H.out).mono ?_; rintro e w' ⟨rfl, rfl⟩))
 go_ret
 exact ⟨rfl, rfl⟩
theorem l7Id_yes (x : Int) (w : World) (h : 1 ≤ x ∧ x ≤ 20) : Calls Tryz.prog 171 #[.int .i64 x] w fun e w' => e = .returned (.bool true) ∧ w = w' := by
 have H := jd h
 clear h
 go_enter Tryz.func171, Tryz.ntmps171
 go_wp2_with (first | (go_at_call 33; refine (in_yes x 1 20 _ H.out).mono ?_; rintro e w' ⟨rfl, rfl⟩))
 go_ret
 exact ⟨rfl, rfl⟩
theorem l7Id_no (x : Int) (w : World) (h : ¬ (1 ≤ x ∧ x ≤ 20)) : Calls Tryz.prog 171 #[.int .i64 x] w fun e w' => e = .returned (.bool false) ∧ w = w' := by
 have H := jd h
 clear h
 go_enter Tryz.func171, Tryz.ntmps171
 go_wp2_with (first | (go_at_call 33; refine (in_no x 1 20 _ H.out).mono ?_; rintro e w' ⟨rfl, rfl⟩))
 go_ret
 exact ⟨rfl, rfl⟩
theorem l7Seq_yes (x : Int) (w : World) (h : 1 ≤ x ∧ x ≤ 2000) : Calls Tryz.prog 107 #[.int .i64 x] w fun e w' => e = .returned (.bool true) ∧ w = w' := by
 have H := jd h
 clear h
 go_enter Tryz.func107, Tryz.ntmps107
 go_wp2_with (first | (go_at_call 33; refine (in_yes x 1 2000 _ H.out).mono ?_; rintro e w' ⟨rfl, rfl⟩))
 go_ret
 exact ⟨rfl, rfl⟩
theorem l7Seq_no (x : Int) (w : World) (h : ¬ (1 ≤ x ∧ x ≤ 2000)) : Calls Tryz.prog 107 #[.int .i64 x] w fun e w' => e = .returned (.bool false) ∧ w = w' := by
 have H := jd h
 clear h
 go_enter Tryz.func107, Tryz.ntmps107
 go_wp2_with (first | (go_at_call 33; refine (in_no x 1 2000 _ H.out).mono ?_; rintro e w' ⟨rfl, rfl⟩))
 go_ret
 exact ⟨rfl, rfl⟩
theorem l7Index_yes (x : Int) (w : World) (h : 1 ≤ x ∧ x ≤ 2000) : Calls Tryz.prog 108 #[.int .i64 x] w fun e w' => e = .returned (.bool true) ∧ w = w' := by
 have H := jd h
 clear h
 go_enter Tryz.func108, Tryz.ntmps108
 go_wp2_with (first | (go_at_call 33; refine (in_yes x 1 2000 _ H.out).mono ?_; rintro e w' ⟨rfl, rfl⟩))
 go_ret
 exact ⟨rfl, rfl⟩
theorem l7Index_no (x : Int) (w : World) (h : ¬ (1 ≤ x ∧ x ≤ 2000)) : Calls Tryz.prog 108 #[.int .i64 x] w fun e w' => e = .returned (.bool false) ∧ w = w' := by
 have H := jd h
 clear h
 go_enter Tryz.func108, Tryz.ntmps108
 go_wp2_with (first | (go_at_call 33; refine (in_no x 1 2000 _ H.out).mono ?_; rintro e w' ⟨rfl, rfl⟩))
 go_ret
 exact ⟨rfl, rfl⟩
theorem TimeOk_yes (x : Int) (w : World) (h : 0 ≤ x ∧ x ≤ 1000000) : Calls Tryz.prog 67 #[.int .i64 x] w fun e w' => e = .returned (.bool true) ∧ w = w' := by
 have H := jd h
 clear h
 go_enter Tryz.func67, Tryz.ntmps67
 go_wp2_with (first | (go_at_call 33; refine (in_yes x 0 1000000 _ H.out).mono ?_; rintro e w' ⟨rfl, rfl⟩))
 go_ret
 exact ⟨rfl, rfl⟩
theorem TimeOk_no (x : Int) (w : World) (h : ¬ (0 ≤ x ∧ x ≤ 1000000)) : Calls Tryz.prog 67 #[.int .i64 x] w fun e w' => e = .returned (.bool false) ∧ w = w' := by
 have H := jd h
 clear h
 go_enter Tryz.func67, Tryz.ntmps67
 go_wp2_with (first | (go_at_call 33; refine (in_no x 0 1000000 _ H.out).mono ?_; rintro e w' ⟨rfl, rfl⟩))
 go_ret
 exact ⟨rfl, rfl⟩
theorem AskerOk_yes (x : Int) (w : World) (h : 2 ≤ x ∧ x ≤ 5) : Calls Tryz.prog 106 #[.int .i64 x] w fun e w' => e = .returned (.bool true) ∧ w = w' := by
 have H := jd h
 clear h
 go_enter Tryz.func106, Tryz.ntmps106
 go_wp2_with (first | (go_at_call 33; refine (in_yes x 2 5 _ H.out).mono ?_; rintro e w' ⟨rfl, rfl⟩))
 go_ret
 exact ⟨rfl, rfl⟩
theorem AskerOk_no (x : Int) (w : World) (h : ¬ (2 ≤ x ∧ x ≤ 5)) : Calls Tryz.prog 106 #[.int .i64 x] w fun e w' => e = .returned (.bool false) ∧ w = w' := by
 have H := jd h
 clear h
 go_enter Tryz.func106, Tryz.ntmps106
 go_wp2_with (first | (go_at_call 33; refine (in_no x 2 5 _ H.out).mono ?_; rintro e w' ⟨rfl, rfl⟩))
 go_ret
 exact ⟨rfl, rfl⟩
set_option maxHeartbeats 6400000 in
theorem sOpOk_any (x0 x1 x2 x3 x4 : Int) (w : World) :
    Calls Tryz.prog 148 #[.agg #[.int .i64 x0, .int .i64 x1, .int .i64 x2, .int .i64 x3, .int .i64 x4]] w fun e w' => e = .returned (.bool (opB ⟨x0, x1, x2, x3, x4⟩)) ∧ Below w.heap.size w w' := by
 by_cases h1 : x0 = 1
 · subst h1
   by_cases c1 : 0 ≤ x1 ∧ x1 ≤ 9
   · have C1 := jd c1
     by_cases c2 : 0 ≤ x2 ∧ x2 ≤ 999
     · have C2 := jd c2
       by_cases c3 : x3 = 0
       · subst c3
         by_cases c4 : x4 = 0
         · subst c4
           have HV := jd (show true = opB ⟨1, x1, x2, 0, 0⟩ by simp [opB, inB]; try omega)
           go_enter Tryz.func148, Tryz.ntmps148
           go_wp2_with (first
            | (go_at_call 169; refine (l7Key_yes x1 _ C1.out).mono ?_; rintro e w' ⟨rfl, rfl⟩)
            | (go_at_call 170; refine (l7Value_yes x2 _ C2.out).mono ?_; rintro e w' ⟨rfl, rfl⟩))
           go_ret
           exact ⟨ret_bool HV.out, (Below.refl _ _).alloc (Nat.le_refl _) _⟩
         · have HV := jd (show false = opB ⟨1, x1, x2, 0, x4⟩ by simp [opB, inB]; omega)
           have e4 : (x4 == 0) = false := by simpa using c4
           have d4 : decide (x4 = 0) = false := decide_eq_false c4
           go_enter Tryz.func148, Tryz.ntmps148
           go_wp2_with (first
            | (go_at_call 169; refine (l7Key_yes x1 _ C1.out).mono ?_; rintro e w' ⟨rfl, rfl⟩)
            | (go_at_call 170; refine (l7Value_yes x2 _ C2.out).mono ?_; rintro e w' ⟨rfl, rfl⟩))
           go_ret
           exact ⟨ret_bool HV.out, (Below.refl _ _).alloc (Nat.le_refl _) _⟩
       · have HV := jd (show false = opB ⟨1, x1, x2, x3, x4⟩ by simp [opB, inB]; omega)
         have e3 : (x3 == 0) = false := by simpa using c3
         have d3 : decide (x3 = 0) = false := decide_eq_false c3
         go_enter Tryz.func148, Tryz.ntmps148
         go_wp2_with (first
          | (go_at_call 169; refine (l7Key_yes x1 _ C1.out).mono ?_; rintro e w' ⟨rfl, rfl⟩)
          | (go_at_call 170; refine (l7Value_yes x2 _ C2.out).mono ?_; rintro e w' ⟨rfl, rfl⟩))
         go_ret
         exact ⟨ret_bool HV.out, (Below.refl _ _).alloc (Nat.le_refl _) _⟩
     · have C2 := jd c2
       have HV := jd (show false = opB ⟨1, x1, x2, x3, x4⟩ by simp [opB, inB]; omega)
       clear c2
       go_enter Tryz.func148, Tryz.ntmps148
       go_wp2_with (first
        | (go_at_call 169; refine (l7Key_yes x1 _ C1.out).mono ?_; rintro e w' ⟨rfl, rfl⟩)
        | (go_at_call 170; refine (l7Value_no x2 _ C2.out).mono ?_; rintro e w' ⟨rfl, rfl⟩))
       go_ret
       exact ⟨ret_bool HV.out, (Below.refl _ _).alloc (Nat.le_refl _) _⟩
   · have C1 := jd c1
     have HV := jd (show false = opB ⟨1, x1, x2, x3, x4⟩ by simp [opB, inB]; omega)
     clear c1
     go_enter Tryz.func148, Tryz.ntmps148
     go_wp2_with (first
      | (go_at_call 169; refine (l7Key_no x1 _ C1.out).mono ?_; rintro e w' ⟨rfl, rfl⟩))
     go_ret
     exact ⟨ret_bool HV.out, (Below.refl _ _).alloc (Nat.le_refl _) _⟩
 by_cases h2 : x0 = 2
 · subst h2
   by_cases c1 : 0 ≤ x1 ∧ x1 ≤ 9
   · have C1 := jd c1
     by_cases c2 : x2 = 0
     · subst c2
       by_cases c3 : x3 = 0
       · subst c3
         by_cases c4 : x4 = 0
         · subst c4
           have HV := jd (show true = opB ⟨2, x1, 0, 0, 0⟩ by simp [opB, inB]; try omega)
           go_enter Tryz.func148, Tryz.ntmps148
           go_wp2_with (first
            | (go_at_call 169; refine (l7Key_yes x1 _ C1.out).mono ?_; rintro e w' ⟨rfl, rfl⟩))
           go_ret
           exact ⟨ret_bool HV.out, (Below.refl _ _).alloc (Nat.le_refl _) _⟩
         · have HV := jd (show false = opB ⟨2, x1, 0, 0, x4⟩ by simp [opB, inB]; omega)
           have e4 : (x4 == 0) = false := by simpa using c4
           have d4 : decide (x4 = 0) = false := decide_eq_false c4
           go_enter Tryz.func148, Tryz.ntmps148
           go_wp2_with (first
            | (go_at_call 169; refine (l7Key_yes x1 _ C1.out).mono ?_; rintro e w' ⟨rfl, rfl⟩))
           go_ret
           exact ⟨ret_bool HV.out, (Below.refl _ _).alloc (Nat.le_refl _) _⟩
       · have HV := jd (show false = opB ⟨2, x1, 0, x3, x4⟩ by simp [opB, inB]; omega)
         have e3 : (x3 == 0) = false := by simpa using c3
         have d3 : decide (x3 = 0) = false := decide_eq_false c3
         go_enter Tryz.func148, Tryz.ntmps148
         go_wp2_with (first
          | (go_at_call 169; refine (l7Key_yes x1 _ C1.out).mono ?_; rintro e w' ⟨rfl, rfl⟩))
         go_ret
         exact ⟨ret_bool HV.out, (Below.refl _ _).alloc (Nat.le_refl _) _⟩
     · have HV := jd (show false = opB ⟨2, x1, x2, x3, x4⟩ by simp [opB, inB]; omega)
       have e2 : (x2 == 0) = false := by simpa using c2
       have d2 : decide (x2 = 0) = false := decide_eq_false c2
       go_enter Tryz.func148, Tryz.ntmps148
       go_wp2_with (first
        | (go_at_call 169; refine (l7Key_yes x1 _ C1.out).mono ?_; rintro e w' ⟨rfl, rfl⟩))
       go_ret
       exact ⟨ret_bool HV.out, (Below.refl _ _).alloc (Nat.le_refl _) _⟩
   · have C1 := jd c1
     have HV := jd (show false = opB ⟨2, x1, x2, x3, x4⟩ by simp [opB, inB]; omega)
     clear c1
     go_enter Tryz.func148, Tryz.ntmps148
     go_wp2_with (first
      | (go_at_call 169; refine (l7Key_no x1 _ C1.out).mono ?_; rintro e w' ⟨rfl, rfl⟩))
     go_ret
     exact ⟨ret_bool HV.out, (Below.refl _ _).alloc (Nat.le_refl _) _⟩
 by_cases h3 : x0 = 3
 · subst h3
   by_cases c1 : 1 ≤ x1 ∧ x1 ≤ 20
   · have C1 := jd c1
     by_cases c2 : 0 ≤ x2 ∧ x2 ≤ 1000000
     · have C2 := jd c2
       by_cases c3 : 0 ≤ x3 ∧ x3 ≤ 9
       · have C3 := jd c3
         by_cases c4 : 0 ≤ x4 ∧ x4 ≤ 999
         · have C4 := jd c4
           have HV := jd (show true = opB ⟨3, x1, x2, x3, x4⟩ by simp [opB, inB]; try omega)
           go_enter Tryz.func148, Tryz.ntmps148
           go_wp2_with (first
            | (go_at_call 171; refine (l7Id_yes x1 _ C1.out).mono ?_; rintro e w' ⟨rfl, rfl⟩)
            | (go_at_call 67; refine (TimeOk_yes x2 _ C2.out).mono ?_; rintro e w' ⟨rfl, rfl⟩)
            | (go_at_call 169; refine (l7Key_yes x3 _ C3.out).mono ?_; rintro e w' ⟨rfl, rfl⟩)
            | (go_at_call 170; refine (l7Value_yes x4 _ C4.out).mono ?_; rintro e w' ⟨rfl, rfl⟩))
           go_ret
           exact ⟨ret_bool HV.out, (Below.refl _ _).alloc (Nat.le_refl _) _⟩
         · have C4 := jd c4
           have HV := jd (show false = opB ⟨3, x1, x2, x3, x4⟩ by simp [opB, inB]; omega)
           clear c4
           go_enter Tryz.func148, Tryz.ntmps148
           go_wp2_with (first
            | (go_at_call 171; refine (l7Id_yes x1 _ C1.out).mono ?_; rintro e w' ⟨rfl, rfl⟩)
            | (go_at_call 67; refine (TimeOk_yes x2 _ C2.out).mono ?_; rintro e w' ⟨rfl, rfl⟩)
            | (go_at_call 169; refine (l7Key_yes x3 _ C3.out).mono ?_; rintro e w' ⟨rfl, rfl⟩)
            | (go_at_call 170; refine (l7Value_no x4 _ C4.out).mono ?_; rintro e w' ⟨rfl, rfl⟩))
           go_ret
           exact ⟨ret_bool HV.out, (Below.refl _ _).alloc (Nat.le_refl _) _⟩
       · have C3 := jd c3
         have HV := jd (show false = opB ⟨3, x1, x2, x3, x4⟩ by simp [opB, inB]; omega)
         clear c3
         go_enter Tryz.func148, Tryz.ntmps148
         go_wp2_with (first
          | (go_at_call 171; refine (l7Id_yes x1 _ C1.out).mono ?_; rintro e w' ⟨rfl, rfl⟩)
          | (go_at_call 67; refine (TimeOk_yes x2 _ C2.out).mono ?_; rintro e w' ⟨rfl, rfl⟩)
          | (go_at_call 169; refine (l7Key_no x3 _ C3.out).mono ?_; rintro e w' ⟨rfl, rfl⟩))
         go_ret
         exact ⟨ret_bool HV.out, (Below.refl _ _).alloc (Nat.le_refl _) _⟩
     · have C2 := jd c2
       have HV := jd (show false = opB ⟨3, x1, x2, x3, x4⟩ by simp [opB, inB]; omega)
       clear c2
       go_enter Tryz.func148, Tryz.ntmps148
       go_wp2_with (first
        | (go_at_call 171; refine (l7Id_yes x1 _ C1.out).mono ?_; rintro e w' ⟨rfl, rfl⟩)
        | (go_at_call 67; refine (TimeOk_no x2 _ C2.out).mono ?_; rintro e w' ⟨rfl, rfl⟩))
       go_ret
       exact ⟨ret_bool HV.out, (Below.refl _ _).alloc (Nat.le_refl _) _⟩
   · have C1 := jd c1
     have HV := jd (show false = opB ⟨3, x1, x2, x3, x4⟩ by simp [opB, inB]; omega)
     clear c1
     go_enter Tryz.func148, Tryz.ntmps148
     go_wp2_with (first
      | (go_at_call 171; refine (l7Id_no x1 _ C1.out).mono ?_; rintro e w' ⟨rfl, rfl⟩))
     go_ret
     exact ⟨ret_bool HV.out, (Below.refl _ _).alloc (Nat.le_refl _) _⟩
 by_cases h4 : x0 = 4
 · subst h4
   by_cases c1 : 1 ≤ x1 ∧ x1 ≤ 20
   · have C1 := jd c1
     by_cases c2 : 0 ≤ x2 ∧ x2 ≤ 1000
     · have C2 := jd c2
       by_cases c3 : x3 = 0
       · subst c3
         by_cases c4 : x4 = 0
         · subst c4
           have HV := jd (show true = opB ⟨4, x1, x2, 0, 0⟩ by simp [opB, inB]; try omega)
           go_enter Tryz.func148, Tryz.ntmps148
           go_wp2_with (first
            | (go_at_call 171; refine (l7Id_yes x1 _ C1.out).mono ?_; rintro e w' ⟨rfl, rfl⟩)
            | (go_at_call 33; refine (in_yes x2 0 1000 _ C2.out).mono ?_; rintro e w' ⟨rfl, rfl⟩))
           go_ret
           exact ⟨ret_bool HV.out, (Below.refl _ _).alloc (Nat.le_refl _) _⟩
         · have HV := jd (show false = opB ⟨4, x1, x2, 0, x4⟩ by simp [opB, inB]; omega)
           have e4 : (x4 == 0) = false := by simpa using c4
           have d4 : decide (x4 = 0) = false := decide_eq_false c4
           go_enter Tryz.func148, Tryz.ntmps148
           go_wp2_with (first
            | (go_at_call 171; refine (l7Id_yes x1 _ C1.out).mono ?_; rintro e w' ⟨rfl, rfl⟩)
            | (go_at_call 33; refine (in_yes x2 0 1000 _ C2.out).mono ?_; rintro e w' ⟨rfl, rfl⟩))
           go_ret
           exact ⟨ret_bool HV.out, (Below.refl _ _).alloc (Nat.le_refl _) _⟩
       · have HV := jd (show false = opB ⟨4, x1, x2, x3, x4⟩ by simp [opB, inB]; omega)
         have e3 : (x3 == 0) = false := by simpa using c3
         have d3 : decide (x3 = 0) = false := decide_eq_false c3
         go_enter Tryz.func148, Tryz.ntmps148
         go_wp2_with (first
          | (go_at_call 171; refine (l7Id_yes x1 _ C1.out).mono ?_; rintro e w' ⟨rfl, rfl⟩)
          | (go_at_call 33; refine (in_yes x2 0 1000 _ C2.out).mono ?_; rintro e w' ⟨rfl, rfl⟩))
         go_ret
         exact ⟨ret_bool HV.out, (Below.refl _ _).alloc (Nat.le_refl _) _⟩
     · have C2 := jd c2
       have HV := jd (show false = opB ⟨4, x1, x2, x3, x4⟩ by simp [opB, inB]; omega)
       clear c2
       go_enter Tryz.func148, Tryz.ntmps148
       go_wp2_with (first
        | (go_at_call 171; refine (l7Id_yes x1 _ C1.out).mono ?_; rintro e w' ⟨rfl, rfl⟩)
        | (go_at_call 33; refine (in_no x2 0 1000 _ C2.out).mono ?_; rintro e w' ⟨rfl, rfl⟩))
       go_ret
       exact ⟨ret_bool HV.out, (Below.refl _ _).alloc (Nat.le_refl _) _⟩
   · have C1 := jd c1
     have HV := jd (show false = opB ⟨4, x1, x2, x3, x4⟩ by simp [opB, inB]; omega)
     clear c1
     go_enter Tryz.func148, Tryz.ntmps148
     go_wp2_with (first
      | (go_at_call 171; refine (l7Id_no x1 _ C1.out).mono ?_; rintro e w' ⟨rfl, rfl⟩))
     go_ret
     exact ⟨ret_bool HV.out, (Below.refl _ _).alloc (Nat.le_refl _) _⟩
 by_cases h5 : x0 = 5
 · subst h5
   by_cases c1 : 1 ≤ x1 ∧ x1 ≤ 1000
   · have C1 := jd c1
     by_cases c2 : x2 = 0
     · subst c2
       by_cases c3 : x3 = 0
       · subst c3
         by_cases c4 : x4 = 0
         · subst c4
           have HV := jd (show true = opB ⟨5, x1, 0, 0, 0⟩ by simp [opB, inB]; try omega)
           go_enter Tryz.func148, Tryz.ntmps148
           go_wp2_with (first
            | (go_at_call 33; refine (in_yes x1 1 1000 _ C1.out).mono ?_; rintro e w' ⟨rfl, rfl⟩))
           go_ret
           exact ⟨ret_bool HV.out, (Below.refl _ _).alloc (Nat.le_refl _) _⟩
         · have HV := jd (show false = opB ⟨5, x1, 0, 0, x4⟩ by simp [opB, inB]; omega)
           have e4 : (x4 == 0) = false := by simpa using c4
           have d4 : decide (x4 = 0) = false := decide_eq_false c4
           go_enter Tryz.func148, Tryz.ntmps148
           go_wp2_with (first
            | (go_at_call 33; refine (in_yes x1 1 1000 _ C1.out).mono ?_; rintro e w' ⟨rfl, rfl⟩))
           go_ret
           exact ⟨ret_bool HV.out, (Below.refl _ _).alloc (Nat.le_refl _) _⟩
       · have HV := jd (show false = opB ⟨5, x1, 0, x3, x4⟩ by simp [opB, inB]; omega)
         have e3 : (x3 == 0) = false := by simpa using c3
         have d3 : decide (x3 = 0) = false := decide_eq_false c3
         go_enter Tryz.func148, Tryz.ntmps148
         go_wp2_with (first
          | (go_at_call 33; refine (in_yes x1 1 1000 _ C1.out).mono ?_; rintro e w' ⟨rfl, rfl⟩))
         go_ret
         exact ⟨ret_bool HV.out, (Below.refl _ _).alloc (Nat.le_refl _) _⟩
     · have HV := jd (show false = opB ⟨5, x1, x2, x3, x4⟩ by simp [opB, inB]; omega)
       have e2 : (x2 == 0) = false := by simpa using c2
       have d2 : decide (x2 = 0) = false := decide_eq_false c2
       go_enter Tryz.func148, Tryz.ntmps148
       go_wp2_with (first
        | (go_at_call 33; refine (in_yes x1 1 1000 _ C1.out).mono ?_; rintro e w' ⟨rfl, rfl⟩))
       go_ret
       exact ⟨ret_bool HV.out, (Below.refl _ _).alloc (Nat.le_refl _) _⟩
   · have C1 := jd c1
     have HV := jd (show false = opB ⟨5, x1, x2, x3, x4⟩ by simp [opB, inB]; omega)
     clear c1
     go_enter Tryz.func148, Tryz.ntmps148
     go_wp2_with (first
      | (go_at_call 33; refine (in_no x1 1 1000 _ C1.out).mono ?_; rintro e w' ⟨rfl, rfl⟩))
     go_ret
     exact ⟨ret_bool HV.out, (Below.refl _ _).alloc (Nat.le_refl _) _⟩
 have HV := jd (show false = opB ⟨x0, x1, x2, x3, x4⟩ by simp [opB, h1, h2, h3, h4, h5])
 have g1 : (x0 == 1) = false := by simpa using h1
 have g2 : (x0 == 2) = false := by simpa using h2
 have g3 : (x0 == 3) = false := by simpa using h3
 have g4 : (x0 == 4) = false := by simpa using h4
 have g5 : (x0 == 5) = false := by simpa using h5
 go_enter Tryz.func148, Tryz.ntmps148
 go_wp2
 go_ret
 exact ⟨ret_bool HV.out, (Below.refl _ _).alloc (Nat.le_refl _) _⟩
theorem sAsker_any (x : Int) (w : World) : Calls Tryz.prog 106 #[.int .i64 x] w fun e w' => e = .returned (.bool (askB x)) ∧ Below w.heap.size w w' := by
 by_cases h : 2 ≤ x ∧ x ≤ 5
 · refine (AskerOk_yes x w h).mono ?_
   rintro e w' ⟨rfl, rfl⟩
   exact ⟨ret_bool (by simp [askB, inB]; omega), Below.refl _ _⟩
 · refine (AskerOk_no x w h).mono ?_
   rintro e w' ⟨rfl, rfl⟩
   exact ⟨ret_bool (by simp [askB, inB]; omega), Below.refl _ _⟩
set_option maxHeartbeats 6400000 in
theorem sEntryOk_any (x0 x1 x2 x3 x4 x5 x6 x7 x8 : Int) (w : World) :
    Calls Tryz.prog 110 #[.agg #[.int .i64 x0, .int .i64 x1, .int .i64 x2, .int .i64 x3, .int .i64 x4, .int .i64 x5, .int .i64 x6, .int .i64 x7, .int .i64 x8]] w fun e w' => e = .returned (.bool (entB ⟨x0, x1, x2, x3, x4, x5, x6, x7, x8⟩)) ∧ Below w.heap.size w w' := by
 have C := jd ((Below.refl w.heap.size w).alloc (Nat.le_refl _) (.cells #[.int .i64 x0, .int .i64 x1, .int .i64 x2, .int .i64 x3, .int .i64 x4, .int .i64 x5, .int .i64 x6, .int .i64 x7, .int .i64 x8] 98))
 by_cases c0 : 1 ≤ x0 ∧ x0 ≤ 2000
 · have C0 := jd c0
   by_cases c1 : 0 ≤ x1 ∧ x1 ≤ 1000000
   · have C1 := jd c1
     by_cases c2 : 2 ≤ x2 ∧ x2 ≤ 5
     · have C2 := jd c2
       by_cases c3 : 1 ≤ x3 ∧ x3 ≤ 2000
       · have C3 := jd c3
         have HV := jd (show opB ⟨x4, x5, x6, x7, x8⟩ = entB ⟨x0, x1, x2, x3, x4, x5, x6, x7, x8⟩ by simp [entB, askB, inB, EntM.op, c0.1, c0.2, c1.1, c1.2, c2.1, c2.2, c3.1, c3.2])
         clear c0 c1 c2 c3
         go_enter Tryz.func110, Tryz.ntmps110
         go_wp2_with (first
          | (go_at_call 108; refine (l7Index_yes x0 _ C0.out).mono ?_; rintro e w' ⟨rfl, rfl⟩)
          | (go_at_call 67; refine (TimeOk_yes x1 _ C1.out).mono ?_; rintro e w' ⟨rfl, rfl⟩)
          | (go_at_call 106; refine (AskerOk_yes x2 _ C2.out).mono ?_; rintro e w' ⟨rfl, rfl⟩)
          | (go_at_call 107; refine (l7Seq_yes x3 _ C3.out).mono ?_; rintro e w' ⟨rfl, rfl⟩)
          | (go_at_call 148; refine (sOpOk_any x4 x5 x6 x7 x8 _).mono ?_; rintro e w' ⟨rfl, b⟩))
         have CC := jd (C.out.trans (b.mono C.out.size))
         clear b
         go_ret
         exact ⟨ret_bool HV.out, CC.out⟩
       · have C3 := jd c3
         have HV := jd (show false = entB ⟨x0, x1, x2, x3, x4, x5, x6, x7, x8⟩ by simp [entB, askB, inB]; omega)
         clear c0 c1 c2 c3
         go_enter Tryz.func110, Tryz.ntmps110
         go_wp2_with (first
          | (go_at_call 108; refine (l7Index_yes x0 _ C0.out).mono ?_; rintro e w' ⟨rfl, rfl⟩)
          | (go_at_call 67; refine (TimeOk_yes x1 _ C1.out).mono ?_; rintro e w' ⟨rfl, rfl⟩)
          | (go_at_call 106; refine (AskerOk_yes x2 _ C2.out).mono ?_; rintro e w' ⟨rfl, rfl⟩)
          | (go_at_call 107; refine (l7Seq_no x3 _ C3.out).mono ?_; rintro e w' ⟨rfl, rfl⟩))
         go_ret
         exact ⟨ret_bool HV.out, C.out⟩
     · have C2 := jd c2
       have HV := jd (show false = entB ⟨x0, x1, x2, x3, x4, x5, x6, x7, x8⟩ by simp [entB, askB, inB]; omega)
       clear c0 c1 c2
       go_enter Tryz.func110, Tryz.ntmps110
       go_wp2_with (first
        | (go_at_call 108; refine (l7Index_yes x0 _ C0.out).mono ?_; rintro e w' ⟨rfl, rfl⟩)
        | (go_at_call 67; refine (TimeOk_yes x1 _ C1.out).mono ?_; rintro e w' ⟨rfl, rfl⟩)
        | (go_at_call 106; refine (AskerOk_no x2 _ C2.out).mono ?_; rintro e w' ⟨rfl, rfl⟩))
       go_ret
       exact ⟨ret_bool HV.out, C.out⟩
   · have C1 := jd c1
     have HV := jd (show false = entB ⟨x0, x1, x2, x3, x4, x5, x6, x7, x8⟩ by simp [entB, askB, inB]; omega)
     clear c0 c1
     go_enter Tryz.func110, Tryz.ntmps110
     go_wp2_with (first
      | (go_at_call 108; refine (l7Index_yes x0 _ C0.out).mono ?_; rintro e w' ⟨rfl, rfl⟩)
      | (go_at_call 67; refine (TimeOk_no x1 _ C1.out).mono ?_; rintro e w' ⟨rfl, rfl⟩))
     go_ret
     exact ⟨ret_bool HV.out, C.out⟩
 · have C0 := jd c0
   have HV := jd (show false = entB ⟨x0, x1, x2, x3, x4, x5, x6, x7, x8⟩ by simp [entB, askB, inB]; omega)
   clear c0
   go_enter Tryz.func110, Tryz.ntmps110
   go_wp2_with (first
    | (go_at_call 108; refine (l7Index_no x0 _ C0.out).mono ?_; rintro e w' ⟨rfl, rfl⟩))
   go_ret
   exact ⟨ret_bool HV.out, C.out⟩
end Go.Proofs.YthjjdelpdiipdaaGreatDoor
