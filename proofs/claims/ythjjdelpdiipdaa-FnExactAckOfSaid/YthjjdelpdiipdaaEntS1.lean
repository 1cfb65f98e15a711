/-
  Chapter 7: the small functions of the model (by program, wip/gen/genent2.py).
-/
import Derived.Test.YthjjdelpdiipdaaEntM
import Derived.RegionTactic
import Derived.BigQuiet
namespace Go.Proofs.Ythjjdelpdiipdaa
set_option maxRecDepth 100000
open Go.RowKit

theorem in_yes (x a b : Int) (w : World) (h : a ≤ x ∧ x ≤ b) : Calls Try.prog 65 #[.int .i64 x, .int .i64 a, .int .i64 b] w fun e w' => e = .returned (.bool true) ∧ w = w' := by
  have := in_any x a b w
  rw [decide_eq_true h.1, decide_eq_true h.2] at this
  exact this
theorem in_no (x a b : Int) (w : World) (h : ¬ (a ≤ x ∧ x ≤ b)) : Calls Try.prog 65 #[.int .i64 x, .int .i64 a, .int .i64 b] w fun e w' => e = .returned (.bool false) ∧ w = w' := by
  have := in_any x a b w
  rw [show (decide (a ≤ x) && decide (x ≤ b)) = false by simp; omega] at this
  exact this

theorem l7Key_yes (x : Int) (w : World) (h : 0 ≤ x ∧ x ≤ 9) : Calls Try.prog 66 #[.int .i64 x] w fun e w' => e = .returned (.bool true) ∧ w = w' := by
  have H := Lib.hid h
  clear h
  go_enter Try.func66, Try.ntmps66
  go_wp2_with (first | (go_at_call 65; refine (in_yes x 0 9 _ H.out).mono ?_; rintro e w' ⟨rfl, rfl⟩))
  go_ret
  exact ⟨rfl, rfl⟩
theorem l7Key_no (x : Int) (w : World) (h : ¬ (0 ≤ x ∧ x ≤ 9)) : Calls Try.prog 66 #[.int .i64 x] w fun e w' => e = .returned (.bool false) ∧ w = w' := by
  have H := Lib.hid h
  clear h
  go_enter Try.func66, Try.ntmps66
  go_wp2_with (first | (go_at_call 65; refine (in_no x 0 9 _ H.out).mono ?_; rintro e w' ⟨rfl, rfl⟩))
  go_ret
  exact ⟨rfl, rfl⟩
theorem l7Value_yes (x : Int) (w : World) (h : 0 ≤ x ∧ x ≤ 999) : Calls Try.prog 67 #[.int .i64 x] w fun e w' => e = .returned (.bool true) ∧ w = w' := by
  have H := Lib.hid h
  clear h
  go_enter Try.func67, Try.ntmps67
  go_wp2_with (first | (go_at_call 65; refine (in_yes x 0 999 _ H.out).mono ?_; rintro e w' ⟨rfl, rfl⟩))
  go_ret
  exact ⟨rfl, rfl⟩
theorem l7Value_no (x : Int) (w : World) (h : ¬ (0 ≤ x ∧ x ≤ 999)) : Calls Try.prog 67 #[.int .i64 x] w fun e w' => e = .returned (.bool false) ∧ w = w' := by
  have H := Lib.hid h
  clear h
  go_enter Try.func67, Try.ntmps67
  go_wp2_with (first | (go_at_call 65; refine (in_no x 0 999 _ H.out).mono ?_; rintro e w' ⟨rfl, rfl⟩))
  go_ret
  exact ⟨rfl, rfl⟩
theorem l7Id_yes (x : Int) (w : World) (h : 1 ≤ x ∧ x ≤ 20) : Calls Try.prog 68 #[.int .i64 x] w fun e w' => e = .returned (.bool true) ∧ w = w' := by
  have H := Lib.hid h
  clear h
  go_enter Try.func68, Try.ntmps68
  go_wp2_with (first | (go_at_call 65; refine (in_yes x 1 20 _ H.out).mono ?_; rintro e w' ⟨rfl, rfl⟩))
  go_ret
  exact ⟨rfl, rfl⟩
theorem l7Id_no (x : Int) (w : World) (h : ¬ (1 ≤ x ∧ x ≤ 20)) : Calls Try.prog 68 #[.int .i64 x] w fun e w' => e = .returned (.bool false) ∧ w = w' := by
  have H := Lib.hid h
  clear h
  go_enter Try.func68, Try.ntmps68
  go_wp2_with (first | (go_at_call 65; refine (in_no x 1 20 _ H.out).mono ?_; rintro e w' ⟨rfl, rfl⟩))
  go_ret
  exact ⟨rfl, rfl⟩
theorem l7Seq_yes (x : Int) (w : World) (h : 1 ≤ x ∧ x ≤ 2000) : Calls Try.prog 44 #[.int .i64 x] w fun e w' => e = .returned (.bool true) ∧ w = w' := by
  have H := Lib.hid h
  clear h
  go_enter Try.func44, Try.ntmps44
  go_wp2_with (first | (go_at_call 65; refine (in_yes x 1 2000 _ H.out).mono ?_; rintro e w' ⟨rfl, rfl⟩))
  go_ret
  exact ⟨rfl, rfl⟩
theorem l7Seq_no (x : Int) (w : World) (h : ¬ (1 ≤ x ∧ x ≤ 2000)) : Calls Try.prog 44 #[.int .i64 x] w fun e w' => e = .returned (.bool false) ∧ w = w' := by
  have H := Lib.hid h
  clear h
  go_enter Try.func44, Try.ntmps44
  go_wp2_with (first | (go_at_call 65; refine (in_no x 1 2000 _ H.out).mono ?_; rintro e w' ⟨rfl, rfl⟩))
  go_ret
  exact ⟨rfl, rfl⟩
theorem l7Index_yes (x : Int) (w : World) (h : 1 ≤ x ∧ x ≤ 2000) : Calls Try.prog 41 #[.int .i64 x] w fun e w' => e = .returned (.bool true) ∧ w = w' := by
  have H := Lib.hid h
  clear h
  go_enter Try.func41, Try.ntmps41
  go_wp2_with (first | (go_at_call 65; refine (in_yes x 1 2000 _ H.out).mono ?_; rintro e w' ⟨rfl, rfl⟩))
  go_ret
  exact ⟨rfl, rfl⟩
theorem l7Index_no (x : Int) (w : World) (h : ¬ (1 ≤ x ∧ x ≤ 2000)) : Calls Try.prog 41 #[.int .i64 x] w fun e w' => e = .returned (.bool false) ∧ w = w' := by
  have H := Lib.hid h
  clear h
  go_enter Try.func41, Try.ntmps41
  go_wp2_with (first | (go_at_call 65; refine (in_no x 1 2000 _ H.out).mono ?_; rintro e w' ⟨rfl, rfl⟩))
  go_ret
  exact ⟨rfl, rfl⟩
theorem TimeOk_yes (x : Int) (w : World) (h : 0 ≤ x ∧ x ≤ 1000000) : Calls Try.prog 42 #[.int .i64 x] w fun e w' => e = .returned (.bool true) ∧ w = w' := by
  have H := Lib.hid h
  clear h
  go_enter Try.func42, Try.ntmps42
  go_wp2_with (first | (go_at_call 65; refine (in_yes x 0 1000000 _ H.out).mono ?_; rintro e w' ⟨rfl, rfl⟩))
  go_ret
  exact ⟨rfl, rfl⟩
theorem TimeOk_no (x : Int) (w : World) (h : ¬ (0 ≤ x ∧ x ≤ 1000000)) : Calls Try.prog 42 #[.int .i64 x] w fun e w' => e = .returned (.bool false) ∧ w = w' := by
  have H := Lib.hid h
  clear h
  go_enter Try.func42, Try.ntmps42
  go_wp2_with (first | (go_at_call 65; refine (in_no x 0 1000000 _ H.out).mono ?_; rintro e w' ⟨rfl, rfl⟩))
  go_ret
  exact ⟨rfl, rfl⟩
theorem AskerOk_yes (x : Int) (w : World) (h : 2 ≤ x ∧ x ≤ 5) : Calls Try.prog 43 #[.int .i64 x] w fun e w' => e = .returned (.bool true) ∧ w = w' := by
  have H := Lib.hid h
  clear h
  go_enter Try.func43, Try.ntmps43
  go_wp2_with (first | (go_at_call 65; refine (in_yes x 2 5 _ H.out).mono ?_; rintro e w' ⟨rfl, rfl⟩))
  go_ret
  exact ⟨rfl, rfl⟩
theorem AskerOk_no (x : Int) (w : World) (h : ¬ (2 ≤ x ∧ x ≤ 5)) : Calls Try.prog 43 #[.int .i64 x] w fun e w' => e = .returned (.bool false) ∧ w = w' := by
  have H := Lib.hid h
  clear h
  go_enter Try.func43, Try.ntmps43
  go_wp2_with (first | (go_at_call 65; refine (in_no x 2 5 _ H.out).mono ?_; rintro e w' ⟨rfl, rfl⟩))
  go_ret
  exact ⟨rfl, rfl⟩

set_option maxHeartbeats 6400000 in
theorem sOpOk_any (x0 x1 x2 x3 x4 : Int) (w : World) :
    Calls Try.prog 45 #[.agg #[.int .i64 x0, .int .i64 x1, .int .i64 x2, .int .i64 x3, .int .i64 x4]] w fun e w' => e = .returned (.bool (opB ⟨x0, x1, x2, x3, x4⟩)) ∧ Below w.heap.size w w' := by
  by_cases h1 : x0 = 1
  · subst h1
    by_cases c1 : 0 ≤ x1 ∧ x1 ≤ 9
    · have C1 := Lib.hid c1
      by_cases c2 : 0 ≤ x2 ∧ x2 ≤ 999
      · have C2 := Lib.hid c2
        by_cases c3 : x3 = 0
        · subst c3
          by_cases c4 : x4 = 0
          · subst c4
            have HV := Lib.hid (show true = opB ⟨1, x1, x2, 0, 0⟩ by simp [opB, inB]; try omega)
            go_enter Try.func45, Try.ntmps45
            go_wp2_with (first
              | (go_at_call 66; refine (l7Key_yes x1 _ C1.out).mono ?_; rintro e w' ⟨rfl, rfl⟩)
              | (go_at_call 67; refine (l7Value_yes x2 _ C2.out).mono ?_; rintro e w' ⟨rfl, rfl⟩))
            go_ret
            exact ⟨ret_bool HV.out, (Below.refl _ _).alloc (Nat.le_refl _) _⟩
          · have HV := Lib.hid (show false = opB ⟨1, x1, x2, 0, x4⟩ by simp [opB, inB]; omega)
            have e4 : (x4 == 0) = false := by simpa using c4
            have d4 : decide (x4 = 0) = false := decide_eq_false c4
            go_enter Try.func45, Try.ntmps45
            go_wp2_with (first
              | (go_at_call 66; refine (l7Key_yes x1 _ C1.out).mono ?_; rintro e w' ⟨rfl, rfl⟩)
              | (go_at_call 67; refine (l7Value_yes x2 _ C2.out).mono ?_; rintro e w' ⟨rfl, rfl⟩))
            go_ret
            exact ⟨ret_bool HV.out, (Below.refl _ _).alloc (Nat.le_refl _) _⟩
        · have HV := Lib.hid (show false = opB ⟨1, x1, x2, x3, x4⟩ by simp [opB, inB]; omega)
          have e3 : (x3 == 0) = false := by simpa using c3
          have d3 : decide (x3 = 0) = false := decide_eq_false c3
          go_enter Try.func45, Try.ntmps45
          go_wp2_with (first
            | (go_at_call 66; refine (l7Key_yes x1 _ C1.out).mono ?_; rintro e w' ⟨rfl, rfl⟩)
            | (go_at_call 67; refine (l7Value_yes x2 _ C2.out).mono ?_; rintro e w' ⟨rfl, rfl⟩))
          go_ret
          exact ⟨ret_bool HV.out, (Below.refl _ _).alloc (Nat.le_refl _) _⟩
      · have C2 := Lib.hid c2
        have HV := Lib.hid (show false = opB ⟨1, x1, x2, x3, x4⟩ by simp [opB, inB]; omega)
        clear c2
        go_enter Try.func45, Try.ntmps45
        go_wp2_with (first
          | (go_at_call 66; refine (l7Key_yes x1 _ C1.out).mono ?_; rintro e w' ⟨rfl, rfl⟩)
          | (go_at_call 67; refine (l7Value_no x2 _ C2.out).mono ?_; rintro e w' ⟨rfl, rfl⟩))
        go_ret
        exact ⟨ret_bool HV.out, (Below.refl _ _).alloc (Nat.le_refl _) _⟩
    · have C1 := Lib.hid c1
      have HV := Lib.hid (show false = opB ⟨1, x1, x2, x3, x4⟩ by simp [opB, inB]; omega)
      clear c1
      go_enter Try.func45, Try.ntmps45
      go_wp2_with (first
        | (go_at_call 66; refine (l7Key_no x1 _ C1.out).mono ?_; rintro e w' ⟨rfl, rfl⟩))
      go_ret
      exact ⟨ret_bool HV.out, (Below.refl _ _).alloc (Nat.le_refl _) _⟩
  by_cases h2 : x0 = 2
  · subst h2
    by_cases c1 : 0 ≤ x1 ∧ x1 ≤ 9
    · have C1 := Lib.hid c1
      by_cases c2 : x2 = 0
      · subst c2
        by_cases c3 : x3 = 0
        · subst c3
          by_cases c4 : x4 = 0
          · subst c4
            have HV := Lib.hid (show true = opB ⟨2, x1, 0, 0, 0⟩ by simp [opB, inB]; try omega)
            go_enter Try.func45, Try.ntmps45
            go_wp2_with (first
              | (go_at_call 66; refine (l7Key_yes x1 _ C1.out).mono ?_; rintro e w' ⟨rfl, rfl⟩))
            go_ret
            exact ⟨ret_bool HV.out, (Below.refl _ _).alloc (Nat.le_refl _) _⟩
          · have HV := Lib.hid (show false = opB ⟨2, x1, 0, 0, x4⟩ by simp [opB, inB]; omega)
            have e4 : (x4 == 0) = false := by simpa using c4
            have d4 : decide (x4 = 0) = false := decide_eq_false c4
            go_enter Try.func45, Try.ntmps45
            go_wp2_with (first
              | (go_at_call 66; refine (l7Key_yes x1 _ C1.out).mono ?_; rintro e w' ⟨rfl, rfl⟩))
            go_ret
            exact ⟨ret_bool HV.out, (Below.refl _ _).alloc (Nat.le_refl _) _⟩
        · have HV := Lib.hid (show false = opB ⟨2, x1, 0, x3, x4⟩ by simp [opB, inB]; omega)
          have e3 : (x3 == 0) = false := by simpa using c3
          have d3 : decide (x3 = 0) = false := decide_eq_false c3
          go_enter Try.func45, Try.ntmps45
          go_wp2_with (first
            | (go_at_call 66; refine (l7Key_yes x1 _ C1.out).mono ?_; rintro e w' ⟨rfl, rfl⟩))
          go_ret
          exact ⟨ret_bool HV.out, (Below.refl _ _).alloc (Nat.le_refl _) _⟩
      · have HV := Lib.hid (show false = opB ⟨2, x1, x2, x3, x4⟩ by simp [opB, inB]; omega)
        have e2 : (x2 == 0) = false := by simpa using c2
        have d2 : decide (x2 = 0) = false := decide_eq_false c2
        go_enter Try.func45, Try.ntmps45
        go_wp2_with (first
          | (go_at_call 66; refine (l7Key_yes x1 _ C1.out).mono ?_; rintro e w' ⟨rfl, rfl⟩))
        go_ret
        exact ⟨ret_bool HV.out, (Below.refl _ _).alloc (Nat.le_refl _) _⟩
    · have C1 := Lib.hid c1
      have HV := Lib.hid (show false = opB ⟨2, x1, x2, x3, x4⟩ by simp [opB, inB]; omega)
      clear c1
      go_enter Try.func45, Try.ntmps45
      go_wp2_with (first
        | (go_at_call 66; refine (l7Key_no x1 _ C1.out).mono ?_; rintro e w' ⟨rfl, rfl⟩))
      go_ret
      exact ⟨ret_bool HV.out, (Below.refl _ _).alloc (Nat.le_refl _) _⟩
  by_cases h3 : x0 = 3
  · subst h3
    by_cases c1 : 1 ≤ x1 ∧ x1 ≤ 20
    · have C1 := Lib.hid c1
      by_cases c2 : 0 ≤ x2 ∧ x2 ≤ 1000000
      · have C2 := Lib.hid c2
        by_cases c3 : 0 ≤ x3 ∧ x3 ≤ 9
        · have C3 := Lib.hid c3
          by_cases c4 : 0 ≤ x4 ∧ x4 ≤ 999
          · have C4 := Lib.hid c4
            have HV := Lib.hid (show true = opB ⟨3, x1, x2, x3, x4⟩ by simp [opB, inB]; try omega)
            go_enter Try.func45, Try.ntmps45
            go_wp2_with (first
              | (go_at_call 68; refine (l7Id_yes x1 _ C1.out).mono ?_; rintro e w' ⟨rfl, rfl⟩)
              | (go_at_call 42; refine (TimeOk_yes x2 _ C2.out).mono ?_; rintro e w' ⟨rfl, rfl⟩)
              | (go_at_call 66; refine (l7Key_yes x3 _ C3.out).mono ?_; rintro e w' ⟨rfl, rfl⟩)
              | (go_at_call 67; refine (l7Value_yes x4 _ C4.out).mono ?_; rintro e w' ⟨rfl, rfl⟩))
            go_ret
            exact ⟨ret_bool HV.out, (Below.refl _ _).alloc (Nat.le_refl _) _⟩
          · have C4 := Lib.hid c4
            have HV := Lib.hid (show false = opB ⟨3, x1, x2, x3, x4⟩ by simp [opB, inB]; omega)
            clear c4
            go_enter Try.func45, Try.ntmps45
            go_wp2_with (first
              | (go_at_call 68; refine (l7Id_yes x1 _ C1.out).mono ?_; rintro e w' ⟨rfl, rfl⟩)
              | (go_at_call 42; refine (TimeOk_yes x2 _ C2.out).mono ?_; rintro e w' ⟨rfl, rfl⟩)
              | (go_at_call 66; refine (l7Key_yes x3 _ C3.out).mono ?_; rintro e w' ⟨rfl, rfl⟩)
              | (go_at_call 67; refine (l7Value_no x4 _ C4.out).mono ?_; rintro e w' ⟨rfl, rfl⟩))
            go_ret
            exact ⟨ret_bool HV.out, (Below.refl _ _).alloc (Nat.le_refl _) _⟩
        · have C3 := Lib.hid c3
          have HV := Lib.hid (show false = opB ⟨3, x1, x2, x3, x4⟩ by simp [opB, inB]; omega)
          clear c3
          go_enter Try.func45, Try.ntmps45
          go_wp2_with (first
            | (go_at_call 68; refine (l7Id_yes x1 _ C1.out).mono ?_; rintro e w' ⟨rfl, rfl⟩)
            | (go_at_call 42; refine (TimeOk_yes x2 _ C2.out).mono ?_; rintro e w' ⟨rfl, rfl⟩)
            | (go_at_call 66; refine (l7Key_no x3 _ C3.out).mono ?_; rintro e w' ⟨rfl, rfl⟩))
          go_ret
          exact ⟨ret_bool HV.out, (Below.refl _ _).alloc (Nat.le_refl _) _⟩
      · have C2 := Lib.hid c2
        have HV := Lib.hid (show false = opB ⟨3, x1, x2, x3, x4⟩ by simp [opB, inB]; omega)
        clear c2
        go_enter Try.func45, Try.ntmps45
        go_wp2_with (first
          | (go_at_call 68; refine (l7Id_yes x1 _ C1.out).mono ?_; rintro e w' ⟨rfl, rfl⟩)
          | (go_at_call 42; refine (TimeOk_no x2 _ C2.out).mono ?_; rintro e w' ⟨rfl, rfl⟩))
        go_ret
        exact ⟨ret_bool HV.out, (Below.refl _ _).alloc (Nat.le_refl _) _⟩
    · have C1 := Lib.hid c1
      have HV := Lib.hid (show false = opB ⟨3, x1, x2, x3, x4⟩ by simp [opB, inB]; omega)
      clear c1
      go_enter Try.func45, Try.ntmps45
      go_wp2_with (first
        | (go_at_call 68; refine (l7Id_no x1 _ C1.out).mono ?_; rintro e w' ⟨rfl, rfl⟩))
      go_ret
      exact ⟨ret_bool HV.out, (Below.refl _ _).alloc (Nat.le_refl _) _⟩
  by_cases h4 : x0 = 4
  · subst h4
    by_cases c1 : 1 ≤ x1 ∧ x1 ≤ 20
    · have C1 := Lib.hid c1
      by_cases c2 : 0 ≤ x2 ∧ x2 ≤ 1000
      · have C2 := Lib.hid c2
        by_cases c3 : x3 = 0
        · subst c3
          by_cases c4 : x4 = 0
          · subst c4
            have HV := Lib.hid (show true = opB ⟨4, x1, x2, 0, 0⟩ by simp [opB, inB]; try omega)
            go_enter Try.func45, Try.ntmps45
            go_wp2_with (first
              | (go_at_call 68; refine (l7Id_yes x1 _ C1.out).mono ?_; rintro e w' ⟨rfl, rfl⟩)
              | (go_at_call 65; refine (in_yes x2 0 1000 _ C2.out).mono ?_; rintro e w' ⟨rfl, rfl⟩))
            go_ret
            exact ⟨ret_bool HV.out, (Below.refl _ _).alloc (Nat.le_refl _) _⟩
          · have HV := Lib.hid (show false = opB ⟨4, x1, x2, 0, x4⟩ by simp [opB, inB]; omega)
            have e4 : (x4 == 0) = false := by simpa using c4
            have d4 : decide (x4 = 0) = false := decide_eq_false c4
            go_enter Try.func45, Try.ntmps45
            go_wp2_with (first
              | (go_at_call 68; refine (l7Id_yes x1 _ C1.out).mono ?_; rintro e w' ⟨rfl, rfl⟩)
              | (go_at_call 65; refine (in_yes x2 0 1000 _ C2.out).mono ?_; rintro e w' ⟨rfl, rfl⟩))
            go_ret
            exact ⟨ret_bool HV.out, (Below.refl _ _).alloc (Nat.le_refl _) _⟩
        · have HV := Lib.hid (show false = opB ⟨4, x1, x2, x3, x4⟩ by simp [opB, inB]; omega)
          have e3 : (x3 == 0) = false := by simpa using c3
          have d3 : decide (x3 = 0) = false := decide_eq_false c3
          go_enter Try.func45, Try.ntmps45
          go_wp2_with (first
            | (go_at_call 68; refine (l7Id_yes x1 _ C1.out).mono ?_; rintro e w' ⟨rfl, rfl⟩)
            | (go_at_call 65; refine (in_yes x2 0 1000 _ C2.out).mono ?_; rintro e w' ⟨rfl, rfl⟩))
          go_ret
          exact ⟨ret_bool HV.out, (Below.refl _ _).alloc (Nat.le_refl _) _⟩
      · have C2 := Lib.hid c2
        have HV := Lib.hid (show false = opB ⟨4, x1, x2, x3, x4⟩ by simp [opB, inB]; omega)
        clear c2
        go_enter Try.func45, Try.ntmps45
        go_wp2_with (first
          | (go_at_call 68; refine (l7Id_yes x1 _ C1.out).mono ?_; rintro e w' ⟨rfl, rfl⟩)
          | (go_at_call 65; refine (in_no x2 0 1000 _ C2.out).mono ?_; rintro e w' ⟨rfl, rfl⟩))
        go_ret
        exact ⟨ret_bool HV.out, (Below.refl _ _).alloc (Nat.le_refl _) _⟩
    · have C1 := Lib.hid c1
      have HV := Lib.hid (show false = opB ⟨4, x1, x2, x3, x4⟩ by simp [opB, inB]; omega)
      clear c1
      go_enter Try.func45, Try.ntmps45
      go_wp2_with (first
        | (go_at_call 68; refine (l7Id_no x1 _ C1.out).mono ?_; rintro e w' ⟨rfl, rfl⟩))
      go_ret
      exact ⟨ret_bool HV.out, (Below.refl _ _).alloc (Nat.le_refl _) _⟩
  by_cases h5 : x0 = 5
  · subst h5
    by_cases c1 : 1 ≤ x1 ∧ x1 ≤ 1000
    · have C1 := Lib.hid c1
      by_cases c2 : x2 = 0
      · subst c2
        by_cases c3 : x3 = 0
        · subst c3
          by_cases c4 : x4 = 0
          · subst c4
            have HV := Lib.hid (show true = opB ⟨5, x1, 0, 0, 0⟩ by simp [opB, inB]; try omega)
            go_enter Try.func45, Try.ntmps45
            go_wp2_with (first
              | (go_at_call 65; refine (in_yes x1 1 1000 _ C1.out).mono ?_; rintro e w' ⟨rfl, rfl⟩))
            go_ret
            exact ⟨ret_bool HV.out, (Below.refl _ _).alloc (Nat.le_refl _) _⟩
          · have HV := Lib.hid (show false = opB ⟨5, x1, 0, 0, x4⟩ by simp [opB, inB]; omega)
            have e4 : (x4 == 0) = false := by simpa using c4
            have d4 : decide (x4 = 0) = false := decide_eq_false c4
            go_enter Try.func45, Try.ntmps45
            go_wp2_with (first
              | (go_at_call 65; refine (in_yes x1 1 1000 _ C1.out).mono ?_; rintro e w' ⟨rfl, rfl⟩))
            go_ret
            exact ⟨ret_bool HV.out, (Below.refl _ _).alloc (Nat.le_refl _) _⟩
        · have HV := Lib.hid (show false = opB ⟨5, x1, 0, x3, x4⟩ by simp [opB, inB]; omega)
          have e3 : (x3 == 0) = false := by simpa using c3
          have d3 : decide (x3 = 0) = false := decide_eq_false c3
          go_enter Try.func45, Try.ntmps45
          go_wp2_with (first
            | (go_at_call 65; refine (in_yes x1 1 1000 _ C1.out).mono ?_; rintro e w' ⟨rfl, rfl⟩))
          go_ret
          exact ⟨ret_bool HV.out, (Below.refl _ _).alloc (Nat.le_refl _) _⟩
      · have HV := Lib.hid (show false = opB ⟨5, x1, x2, x3, x4⟩ by simp [opB, inB]; omega)
        have e2 : (x2 == 0) = false := by simpa using c2
        have d2 : decide (x2 = 0) = false := decide_eq_false c2
        go_enter Try.func45, Try.ntmps45
        go_wp2_with (first
          | (go_at_call 65; refine (in_yes x1 1 1000 _ C1.out).mono ?_; rintro e w' ⟨rfl, rfl⟩))
        go_ret
        exact ⟨ret_bool HV.out, (Below.refl _ _).alloc (Nat.le_refl _) _⟩
    · have C1 := Lib.hid c1
      have HV := Lib.hid (show false = opB ⟨5, x1, x2, x3, x4⟩ by simp [opB, inB]; omega)
      clear c1
      go_enter Try.func45, Try.ntmps45
      go_wp2_with (first
        | (go_at_call 65; refine (in_no x1 1 1000 _ C1.out).mono ?_; rintro e w' ⟨rfl, rfl⟩))
      go_ret
      exact ⟨ret_bool HV.out, (Below.refl _ _).alloc (Nat.le_refl _) _⟩
  have HV := Lib.hid (show false = opB ⟨x0, x1, x2, x3, x4⟩ by simp [opB, h1, h2, h3, h4, h5])
  have g1 : (x0 == 1) = false := by simpa using h1
  have g2 : (x0 == 2) = false := by simpa using h2
  have g3 : (x0 == 3) = false := by simpa using h3
  have g4 : (x0 == 4) = false := by simpa using h4
  have g5 : (x0 == 5) = false := by simpa using h5
  go_enter Try.func45, Try.ntmps45
  go_wp2
  go_ret
  exact ⟨ret_bool HV.out, (Below.refl _ _).alloc (Nat.le_refl _) _⟩

end Go.Proofs.Ythjjdelpdiipdaa
