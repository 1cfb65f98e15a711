/-
  Chapter 11: validity of messages, of the model (by program, wip/gen/genlets1.py).
-/
import Derived.Test.YtgjlfambaiakbaaLetN
import Derived.Test.YtgjlfambaiakbaaEntS1
import Derived.Test.YtgjlfambaiakbaaEntS2
import Derived.RegionTactic
import Derived.BigQuiet
namespace Go.Proofs.Ytgjlfambaiakbaa
set_option maxRecDepth 100000
open Go.RowKit

set_option maxHeartbeats 6400000 in
theorem sAskOk_any (x0 x1 x2 x3 x4 x5 x6 : Int) (w : World) :
    Calls Try.prog 29 #[.agg #[.int .i64 x0, .int .i64 x1, .int .i64 x2, .int .i64 x3, .int .i64 x4, .int .i64 x5, .int .i64 x6]] w fun e w' => e = .returned (.bool (askOkB ⟨x0, x1, x2, x3, x4, x5, x6⟩)) ∧ Below w.heap.size w w' := by
  have C := Lib.hid ((Below.refl w.heap.size w).alloc (Nat.le_refl _) (.cells #[.int .i64 x0, .int .i64 x1, .int .i64 x2, .int .i64 x3, .int .i64 x4, .int .i64 x5, .int .i64 x6] 26))
  by_cases c0 : 2 ≤ x0 ∧ x0 ≤ 5
  · have C0 := Lib.hid c0
    by_cases c1 : 1 ≤ x1 ∧ x1 ≤ 2000
    · have C1 := Lib.hid c1
      have HV := Lib.hid (show opB ⟨x2, x3, x4, x5, x6⟩ = askOkB ⟨x0, x1, x2, x3, x4, x5, x6⟩ by simp [askOkB, askB, inB, AskM.op, c0.1, c0.2, c1.1, c1.2])
      clear c0 c1
      go_enter Try.func29, Try.ntmps29
      go_wp2_with (first
        | (go_at_call 37; refine (AskerOk_yes x0 _ C0.out).mono ?_; rintro e w' ⟨rfl, rfl⟩)
        | (go_at_call 38; refine (l7Seq_yes x1 _ C1.out).mono ?_; rintro e w' ⟨rfl, rfl⟩)
        | (go_at_call 36; refine (sOpOk_any x2 x3 x4 x5 x6 _).mono ?_; rintro e w' ⟨rfl, b⟩))
      have CC := Lib.hid (C.out.trans (b.mono C.out.size))
      clear b
      go_ret
      exact ⟨ret_bool HV.out, CC.out⟩
    · have C1 := Lib.hid c1
      have HV := Lib.hid (show false = askOkB ⟨x0, x1, x2, x3, x4, x5, x6⟩ by simp [askOkB, askB, inB, AskM.op] <;> omega)
      clear c0 c1
      go_enter Try.func29, Try.ntmps29
      go_wp2_with (first
        | (go_at_call 37; refine (AskerOk_yes x0 _ C0.out).mono ?_; rintro e w' ⟨rfl, rfl⟩)
        | (go_at_call 38; refine (l7Seq_no x1 _ C1.out).mono ?_; rintro e w' ⟨rfl, rfl⟩))
      go_ret
      exact ⟨ret_bool HV.out, C.out⟩
  · have C0 := Lib.hid c0
    have HV := Lib.hid (show false = askOkB ⟨x0, x1, x2, x3, x4, x5, x6⟩ by simp [askOkB, askB, inB, AskM.op] <;> omega)
    clear c0
    go_enter Try.func29, Try.ntmps29
    go_wp2_with (first
      | (go_at_call 37; refine (AskerOk_no x0 _ C0.out).mono ?_; rintro e w' ⟨rfl, rfl⟩))
    go_ret
    exact ⟨ret_bool HV.out, C.out⟩

set_option maxHeartbeats 6400000 in
theorem sReadOk_any (x0 x1 x2 x3 : Int) (w : World) :
    Calls Try.prog 34 #[.agg #[.int .i64 x0, .int .i64 x1, .int .i64 x2, .int .i64 x3]] w fun e w' => e = .returned (.bool (readOkB ⟨x0, x1, x2, x3⟩)) ∧ Below w.heap.size w w' := by
  have C := Lib.hid ((Below.refl w.heap.size w).alloc (Nat.le_refl _) (.cells #[.int .i64 x0, .int .i64 x1, .int .i64 x2, .int .i64 x3] 41))
  by_cases c0 : 2 ≤ x0 ∧ x0 ≤ 5
  · have C0 := Lib.hid c0
    by_cases c1 : 1 ≤ x1 ∧ x1 ≤ 2000
    · have C1 := Lib.hid c1
      by_cases c2 : 0 ≤ x2 ∧ x2 ≤ 9
      · have C2 := Lib.hid c2
        by_cases c3 : 0 ≤ x3 ∧ x3 ≤ 2000
        · have C3 := Lib.hid c3
          have ga1 : decide (0 ≤ x3) = true := decide_eq_true (by omega)
          have gb1 : decide (x3 ≤ 2000) = true := decide_eq_true (by omega)
          have HV := Lib.hid (show true = readOkB ⟨x0, x1, x2, x3⟩ by simp [readOkB, askB, inB] <;> omega)
          clear c0 c1 c2 c3
          go_enter Try.func34, Try.ntmps34
          go_wp2_with (first
            | (go_at_call 37; refine (AskerOk_yes x0 _ C0.out).mono ?_; rintro e w' ⟨rfl, rfl⟩)
            | (go_at_call 38; refine (l7Seq_yes x1 _ C1.out).mono ?_; rintro e w' ⟨rfl, rfl⟩)
            | (go_at_call 44; refine (l7Key_yes x2 _ C2.out).mono ?_; rintro e w' ⟨rfl, rfl⟩)
            | (go_at_call 42; refine (in_any _ _ _ _).mono ?_; rintro e w' ⟨rfl, rfl⟩))
          go_ret
          exact ⟨ret_bool HV.out, C.out⟩
        · have C3 := Lib.hid c3
          have ga1 : (decide (0 ≤ x3) && decide (x3 ≤ 2000)) = false := by rw [Bool.and_eq_false_iff, decide_eq_false_iff_not, decide_eq_false_iff_not]; omega
          have HV := Lib.hid (show false = readOkB ⟨x0, x1, x2, x3⟩ by simp [readOkB, askB, inB] <;> omega)
          clear c0 c1 c2 c3
          go_enter Try.func34, Try.ntmps34
          go_wp2_with (first
            | (go_at_call 37; refine (AskerOk_yes x0 _ C0.out).mono ?_; rintro e w' ⟨rfl, rfl⟩)
            | (go_at_call 38; refine (l7Seq_yes x1 _ C1.out).mono ?_; rintro e w' ⟨rfl, rfl⟩)
            | (go_at_call 44; refine (l7Key_yes x2 _ C2.out).mono ?_; rintro e w' ⟨rfl, rfl⟩)
            | (go_at_call 42; refine (in_any _ _ _ _).mono ?_; rintro e w' ⟨rfl, rfl⟩))
          go_ret
          exact ⟨ret_bool HV.out, C.out⟩
      · have C2 := Lib.hid c2
        have HV := Lib.hid (show false = readOkB ⟨x0, x1, x2, x3⟩ by simp [readOkB, askB, inB] <;> omega)
        clear c0 c1 c2
        go_enter Try.func34, Try.ntmps34
        go_wp2_with (first
          | (go_at_call 37; refine (AskerOk_yes x0 _ C0.out).mono ?_; rintro e w' ⟨rfl, rfl⟩)
          | (go_at_call 38; refine (l7Seq_yes x1 _ C1.out).mono ?_; rintro e w' ⟨rfl, rfl⟩)
          | (go_at_call 44; refine (l7Key_no x2 _ C2.out).mono ?_; rintro e w' ⟨rfl, rfl⟩))
        go_ret
        exact ⟨ret_bool HV.out, C.out⟩
    · have C1 := Lib.hid c1
      have HV := Lib.hid (show false = readOkB ⟨x0, x1, x2, x3⟩ by simp [readOkB, askB, inB] <;> omega)
      clear c0 c1
      go_enter Try.func34, Try.ntmps34
      go_wp2_with (first
        | (go_at_call 37; refine (AskerOk_yes x0 _ C0.out).mono ?_; rintro e w' ⟨rfl, rfl⟩)
        | (go_at_call 38; refine (l7Seq_no x1 _ C1.out).mono ?_; rintro e w' ⟨rfl, rfl⟩))
      go_ret
      exact ⟨ret_bool HV.out, C.out⟩
  · have C0 := Lib.hid c0
    have HV := Lib.hid (show false = readOkB ⟨x0, x1, x2, x3⟩ by simp [readOkB, askB, inB] <;> omega)
    clear c0
    go_enter Try.func34, Try.ntmps34
    go_wp2_with (first
      | (go_at_call 37; refine (AskerOk_no x0 _ C0.out).mono ?_; rintro e w' ⟨rfl, rfl⟩))
    go_ret
    exact ⟨ret_bool HV.out, C.out⟩

set_option maxHeartbeats 6400000 in
theorem sValueOk_any (x0 x1 x2 x3 x4 : Int) (w : World) :
    Calls Try.prog 35 #[.agg #[.int .i64 x0, .int .i64 x1, .int .i64 x2, .int .i64 x3, .int .i64 x4]] w fun e w' => e = .returned (.bool (valueOkB ⟨x0, x1, x2, x3, x4⟩)) ∧ Below w.heap.size w w' := by
  have C := Lib.hid ((Below.refl w.heap.size w).alloc (Nat.le_refl _) (.cells #[.int .i64 x0, .int .i64 x1, .int .i64 x2, .int .i64 x3, .int .i64 x4] 46))
  by_cases q : x3 = 1
  · subst q
    by_cases c0 : 2 ≤ x0 ∧ x0 ≤ 5
    · have C0 := Lib.hid c0
      by_cases c1 : 1 ≤ x1 ∧ x1 ≤ 2000
      · have C1 := Lib.hid c1
        by_cases c2 : 0 ≤ x2 ∧ x2 ≤ 2000
        · have C2 := Lib.hid c2
          have ga2 : decide (0 ≤ x2) = true := decide_eq_true (by omega)
          have gb2 : decide (x2 ≤ 2000) = true := decide_eq_true (by omega)
          by_cases c3 : 0 ≤ x4 ∧ x4 ≤ 999
          · have C3 := Lib.hid c3
            have HV := Lib.hid (show true = valueOkB ⟨x0, x1, x2, 1, x4⟩ by simp [valueOkB, askB, inB] <;> omega)
            clear c0 c1 c2 c3
            go_enter Try.func35, Try.ntmps35
            go_wp2_with (first
      | (go_at_call 42; refine (in_any _ _ _ _).mono ?_; rintro e w' ⟨rfl, rfl⟩)
              | (go_at_call 37; refine (AskerOk_yes x0 _ C0.out).mono ?_; rintro e w' ⟨rfl, rfl⟩)
              | (go_at_call 38; refine (l7Seq_yes x1 _ C1.out).mono ?_; rintro e w' ⟨rfl, rfl⟩)
              | (go_at_call 42; refine (in_any _ _ _ _).mono ?_; rintro e w' ⟨rfl, rfl⟩)
              | (go_at_call 45; refine (l7Value_yes x4 _ C3.out).mono ?_; rintro e w' ⟨rfl, rfl⟩))
            go_ret
            exact ⟨ret_bool HV.out, C.out⟩
          · have C3 := Lib.hid c3
            have HV := Lib.hid (show false = valueOkB ⟨x0, x1, x2, 1, x4⟩ by simp [valueOkB, askB, inB] <;> omega)
            clear c0 c1 c2 c3
            go_enter Try.func35, Try.ntmps35
            go_wp2_with (first
      | (go_at_call 42; refine (in_any _ _ _ _).mono ?_; rintro e w' ⟨rfl, rfl⟩)
              | (go_at_call 37; refine (AskerOk_yes x0 _ C0.out).mono ?_; rintro e w' ⟨rfl, rfl⟩)
              | (go_at_call 38; refine (l7Seq_yes x1 _ C1.out).mono ?_; rintro e w' ⟨rfl, rfl⟩)
              | (go_at_call 42; refine (in_any _ _ _ _).mono ?_; rintro e w' ⟨rfl, rfl⟩)
              | (go_at_call 45; refine (l7Value_no x4 _ C3.out).mono ?_; rintro e w' ⟨rfl, rfl⟩))
            go_ret
            exact ⟨ret_bool HV.out, C.out⟩
        · have C2 := Lib.hid c2
          have ga2 : (decide (0 ≤ x2) && decide (x2 ≤ 2000)) = false := by rw [Bool.and_eq_false_iff, decide_eq_false_iff_not, decide_eq_false_iff_not]; omega
          have HV := Lib.hid (show false = valueOkB ⟨x0, x1, x2, 1, x4⟩ by simp [valueOkB, askB, inB] <;> omega)
          clear c0 c1 c2
          go_enter Try.func35, Try.ntmps35
          go_wp2_with (first
      | (go_at_call 42; refine (in_any _ _ _ _).mono ?_; rintro e w' ⟨rfl, rfl⟩)
            | (go_at_call 37; refine (AskerOk_yes x0 _ C0.out).mono ?_; rintro e w' ⟨rfl, rfl⟩)
            | (go_at_call 38; refine (l7Seq_yes x1 _ C1.out).mono ?_; rintro e w' ⟨rfl, rfl⟩)
            | (go_at_call 42; refine (in_any _ _ _ _).mono ?_; rintro e w' ⟨rfl, rfl⟩))
          go_ret
          exact ⟨ret_bool HV.out, C.out⟩
      · have C1 := Lib.hid c1
        have HV := Lib.hid (show false = valueOkB ⟨x0, x1, x2, 1, x4⟩ by simp [valueOkB, askB, inB] <;> omega)
        clear c0 c1
        go_enter Try.func35, Try.ntmps35
        go_wp2_with (first
      | (go_at_call 42; refine (in_any _ _ _ _).mono ?_; rintro e w' ⟨rfl, rfl⟩)
          | (go_at_call 37; refine (AskerOk_yes x0 _ C0.out).mono ?_; rintro e w' ⟨rfl, rfl⟩)
          | (go_at_call 38; refine (l7Seq_no x1 _ C1.out).mono ?_; rintro e w' ⟨rfl, rfl⟩))
        go_ret
        exact ⟨ret_bool HV.out, C.out⟩
    · have C0 := Lib.hid c0
      have HV := Lib.hid (show false = valueOkB ⟨x0, x1, x2, 1, x4⟩ by simp [valueOkB, askB, inB] <;> omega)
      clear c0
      go_enter Try.func35, Try.ntmps35
      go_wp2_with (first
      | (go_at_call 42; refine (in_any _ _ _ _).mono ?_; rintro e w' ⟨rfl, rfl⟩)
        | (go_at_call 37; refine (AskerOk_no x0 _ C0.out).mono ?_; rintro e w' ⟨rfl, rfl⟩))
      go_ret
      exact ⟨ret_bool HV.out, C.out⟩
  · have e9 : (x3 == 1) = false := by simpa using q
    have d9 : decide (x3 = 1) = false := decide_eq_false q
    by_cases q2 : x4 = 0
    · subst q2
      by_cases c0 : 2 ≤ x0 ∧ x0 ≤ 5
      · have C0 := Lib.hid c0
        by_cases c1 : 1 ≤ x1 ∧ x1 ≤ 2000
        · have C1 := Lib.hid c1
          by_cases c2 : 0 ≤ x2 ∧ x2 ≤ 2000
          · have C2 := Lib.hid c2
            have ga2 : decide (0 ≤ x2) = true := decide_eq_true (by omega)
            have gb2 : decide (x2 ≤ 2000) = true := decide_eq_true (by omega)
            by_cases c3 : 0 ≤ x3 ∧ x3 ≤ 1
            · have C3 := Lib.hid c3
              have ga3 : decide (0 ≤ x3) = true := decide_eq_true (by omega)
              have gb3 : decide (x3 ≤ 1) = true := decide_eq_true (by omega)
              have HV := Lib.hid (show true = valueOkB ⟨x0, x1, x2, x3, 0⟩ by simp [valueOkB, askB, inB] <;> omega)
              clear c0 c1 c2 c3
              go_enter Try.func35, Try.ntmps35
              go_wp2_with (first
        | (go_at_call 45; refine (l7Value_yes _ _ (by decide)).mono ?_; rintro e w' ⟨rfl, rfl⟩)
                | (go_at_call 37; refine (AskerOk_yes x0 _ C0.out).mono ?_; rintro e w' ⟨rfl, rfl⟩)
                | (go_at_call 38; refine (l7Seq_yes x1 _ C1.out).mono ?_; rintro e w' ⟨rfl, rfl⟩)
                | (go_at_call 42; refine (in_any _ _ _ _).mono ?_; rintro e w' ⟨rfl, rfl⟩)
                | (go_at_call 42; refine (in_any _ _ _ _).mono ?_; rintro e w' ⟨rfl, rfl⟩))
              go_ret
              exact ⟨ret_bool HV.out, C.out⟩
            · have C3 := Lib.hid c3
              have ga3 : (decide (0 ≤ x3) && decide (x3 ≤ 1)) = false := by rw [Bool.and_eq_false_iff, decide_eq_false_iff_not, decide_eq_false_iff_not]; omega
              have HV := Lib.hid (show false = valueOkB ⟨x0, x1, x2, x3, 0⟩ by simp [valueOkB, askB, inB] <;> omega)
              clear c0 c1 c2 c3
              go_enter Try.func35, Try.ntmps35
              go_wp2_with (first
        | (go_at_call 45; refine (l7Value_yes _ _ (by decide)).mono ?_; rintro e w' ⟨rfl, rfl⟩)
                | (go_at_call 37; refine (AskerOk_yes x0 _ C0.out).mono ?_; rintro e w' ⟨rfl, rfl⟩)
                | (go_at_call 38; refine (l7Seq_yes x1 _ C1.out).mono ?_; rintro e w' ⟨rfl, rfl⟩)
                | (go_at_call 42; refine (in_any _ _ _ _).mono ?_; rintro e w' ⟨rfl, rfl⟩)
                | (go_at_call 42; refine (in_any _ _ _ _).mono ?_; rintro e w' ⟨rfl, rfl⟩))
              go_ret
              exact ⟨ret_bool HV.out, C.out⟩
          · have C2 := Lib.hid c2
            have ga2 : (decide (0 ≤ x2) && decide (x2 ≤ 2000)) = false := by rw [Bool.and_eq_false_iff, decide_eq_false_iff_not, decide_eq_false_iff_not]; omega
            have HV := Lib.hid (show false = valueOkB ⟨x0, x1, x2, x3, 0⟩ by simp [valueOkB, askB, inB] <;> omega)
            clear c0 c1 c2
            go_enter Try.func35, Try.ntmps35
            go_wp2_with (first
        | (go_at_call 45; refine (l7Value_yes _ _ (by decide)).mono ?_; rintro e w' ⟨rfl, rfl⟩)
              | (go_at_call 37; refine (AskerOk_yes x0 _ C0.out).mono ?_; rintro e w' ⟨rfl, rfl⟩)
              | (go_at_call 38; refine (l7Seq_yes x1 _ C1.out).mono ?_; rintro e w' ⟨rfl, rfl⟩)
              | (go_at_call 42; refine (in_any _ _ _ _).mono ?_; rintro e w' ⟨rfl, rfl⟩))
            go_ret
            exact ⟨ret_bool HV.out, C.out⟩
        · have C1 := Lib.hid c1
          have HV := Lib.hid (show false = valueOkB ⟨x0, x1, x2, x3, 0⟩ by simp [valueOkB, askB, inB] <;> omega)
          clear c0 c1
          go_enter Try.func35, Try.ntmps35
          go_wp2_with (first
        | (go_at_call 45; refine (l7Value_yes _ _ (by decide)).mono ?_; rintro e w' ⟨rfl, rfl⟩)
            | (go_at_call 37; refine (AskerOk_yes x0 _ C0.out).mono ?_; rintro e w' ⟨rfl, rfl⟩)
            | (go_at_call 38; refine (l7Seq_no x1 _ C1.out).mono ?_; rintro e w' ⟨rfl, rfl⟩))
          go_ret
          exact ⟨ret_bool HV.out, C.out⟩
      · have C0 := Lib.hid c0
        have HV := Lib.hid (show false = valueOkB ⟨x0, x1, x2, x3, 0⟩ by simp [valueOkB, askB, inB] <;> omega)
        clear c0
        go_enter Try.func35, Try.ntmps35
        go_wp2_with (first
        | (go_at_call 45; refine (l7Value_yes _ _ (by decide)).mono ?_; rintro e w' ⟨rfl, rfl⟩)
          | (go_at_call 37; refine (AskerOk_no x0 _ C0.out).mono ?_; rintro e w' ⟨rfl, rfl⟩))
        go_ret
        exact ⟨ret_bool HV.out, C.out⟩
    · have e8 : (x4 == 0) = false := by simpa using q2
      have d8 : decide (x4 = 0) = false := decide_eq_false q2
      by_cases c0 : 2 ≤ x0 ∧ x0 ≤ 5
      · have C0 := Lib.hid c0
        by_cases c1 : 1 ≤ x1 ∧ x1 ≤ 2000
        · have C1 := Lib.hid c1
          by_cases c2 : 0 ≤ x2 ∧ x2 ≤ 2000
          · have C2 := Lib.hid c2
            have ga2 : decide (0 ≤ x2) = true := decide_eq_true (by omega)
            have gb2 : decide (x2 ≤ 2000) = true := decide_eq_true (by omega)
            by_cases c3 : 0 ≤ x3 ∧ x3 ≤ 1
            · have C3 := Lib.hid c3
              have ga3 : decide (0 ≤ x3) = true := decide_eq_true (by omega)
              have gb3 : decide (x3 ≤ 1) = true := decide_eq_true (by omega)
              by_cases c4 : 0 ≤ x4 ∧ x4 ≤ 999
              · have C4 := Lib.hid c4
                have HV := Lib.hid (show false = valueOkB ⟨x0, x1, x2, x3, x4⟩ by simp [valueOkB, askB, inB, q, q2] <;> omega)
                clear c0 c1 c2 c3 c4
                go_enter Try.func35, Try.ntmps35
                go_wp2_with (first
                  | (go_at_call 37; refine (AskerOk_yes x0 _ C0.out).mono ?_; rintro e w' ⟨rfl, rfl⟩)
                  | (go_at_call 38; refine (l7Seq_yes x1 _ C1.out).mono ?_; rintro e w' ⟨rfl, rfl⟩)
                  | (go_at_call 42; refine (in_any _ _ _ _).mono ?_; rintro e w' ⟨rfl, rfl⟩)
                  | (go_at_call 42; refine (in_any _ _ _ _).mono ?_; rintro e w' ⟨rfl, rfl⟩)
                  | (go_at_call 45; refine (l7Value_yes x4 _ C4.out).mono ?_; rintro e w' ⟨rfl, rfl⟩))
                go_ret
                exact ⟨ret_bool HV.out, C.out⟩
              · have C4 := Lib.hid c4
                have HV := Lib.hid (show false = valueOkB ⟨x0, x1, x2, x3, x4⟩ by simp [valueOkB, askB, inB, q, q2] <;> omega)
                clear c0 c1 c2 c3 c4
                go_enter Try.func35, Try.ntmps35
                go_wp2_with (first
                  | (go_at_call 37; refine (AskerOk_yes x0 _ C0.out).mono ?_; rintro e w' ⟨rfl, rfl⟩)
                  | (go_at_call 38; refine (l7Seq_yes x1 _ C1.out).mono ?_; rintro e w' ⟨rfl, rfl⟩)
                  | (go_at_call 42; refine (in_any _ _ _ _).mono ?_; rintro e w' ⟨rfl, rfl⟩)
                  | (go_at_call 42; refine (in_any _ _ _ _).mono ?_; rintro e w' ⟨rfl, rfl⟩)
                  | (go_at_call 45; refine (l7Value_no x4 _ C4.out).mono ?_; rintro e w' ⟨rfl, rfl⟩))
                go_ret
                exact ⟨ret_bool HV.out, C.out⟩
            · have C3 := Lib.hid c3
              have ga3 : (decide (0 ≤ x3) && decide (x3 ≤ 1)) = false := by rw [Bool.and_eq_false_iff, decide_eq_false_iff_not, decide_eq_false_iff_not]; omega
              have HV := Lib.hid (show false = valueOkB ⟨x0, x1, x2, x3, x4⟩ by simp [valueOkB, askB, inB, q, q2] <;> omega)
              clear c0 c1 c2 c3
              go_enter Try.func35, Try.ntmps35
              go_wp2_with (first
                | (go_at_call 37; refine (AskerOk_yes x0 _ C0.out).mono ?_; rintro e w' ⟨rfl, rfl⟩)
                | (go_at_call 38; refine (l7Seq_yes x1 _ C1.out).mono ?_; rintro e w' ⟨rfl, rfl⟩)
                | (go_at_call 42; refine (in_any _ _ _ _).mono ?_; rintro e w' ⟨rfl, rfl⟩)
                | (go_at_call 42; refine (in_any _ _ _ _).mono ?_; rintro e w' ⟨rfl, rfl⟩))
              go_ret
              exact ⟨ret_bool HV.out, C.out⟩
          · have C2 := Lib.hid c2
            have ga2 : (decide (0 ≤ x2) && decide (x2 ≤ 2000)) = false := by rw [Bool.and_eq_false_iff, decide_eq_false_iff_not, decide_eq_false_iff_not]; omega
            have HV := Lib.hid (show false = valueOkB ⟨x0, x1, x2, x3, x4⟩ by simp [valueOkB, askB, inB, q, q2] <;> omega)
            clear c0 c1 c2
            go_enter Try.func35, Try.ntmps35
            go_wp2_with (first
              | (go_at_call 37; refine (AskerOk_yes x0 _ C0.out).mono ?_; rintro e w' ⟨rfl, rfl⟩)
              | (go_at_call 38; refine (l7Seq_yes x1 _ C1.out).mono ?_; rintro e w' ⟨rfl, rfl⟩)
              | (go_at_call 42; refine (in_any _ _ _ _).mono ?_; rintro e w' ⟨rfl, rfl⟩))
            go_ret
            exact ⟨ret_bool HV.out, C.out⟩
        · have C1 := Lib.hid c1
          have HV := Lib.hid (show false = valueOkB ⟨x0, x1, x2, x3, x4⟩ by simp [valueOkB, askB, inB, q, q2] <;> omega)
          clear c0 c1
          go_enter Try.func35, Try.ntmps35
          go_wp2_with (first
            | (go_at_call 37; refine (AskerOk_yes x0 _ C0.out).mono ?_; rintro e w' ⟨rfl, rfl⟩)
            | (go_at_call 38; refine (l7Seq_no x1 _ C1.out).mono ?_; rintro e w' ⟨rfl, rfl⟩))
          go_ret
          exact ⟨ret_bool HV.out, C.out⟩
      · have C0 := Lib.hid c0
        have HV := Lib.hid (show false = valueOkB ⟨x0, x1, x2, x3, x4⟩ by simp [valueOkB, askB, inB, q, q2] <;> omega)
        clear c0
        go_enter Try.func35, Try.ntmps35
        go_wp2_with (first
          | (go_at_call 37; refine (AskerOk_no x0 _ C0.out).mono ?_; rintro e w' ⟨rfl, rfl⟩))
        go_ret
        exact ⟨ret_bool HV.out, C.out⟩

set_option maxHeartbeats 6400000 in
theorem sAckOk_any (x0 x1 x2 x3 : Int) (w : World) :
    Calls Try.prog 32 #[.agg #[.int .i64 x0, .int .i64 x1, .int .i64 x2, .int .i64 x3]] w fun e w' => e = .returned (.bool (ackOkB ⟨x0, x1, x2, x3⟩)) ∧ Below w.heap.size w w' := by
  have C := Lib.hid ((Below.refl w.heap.size w).alloc (Nat.le_refl _) (.cells #[.int .i64 x0, .int .i64 x1, .int .i64 x2, .int .i64 x3] 34))
  by_cases q : x1 < x3
  · have e9 : decide (x1 < x3) = true := decide_eq_true q
    have e8 : decide (x3 > x1) = true := decide_eq_true q
    by_cases q2 : x2 = 0
    · subst q2
      by_cases c0 : 2 ≤ x0 ∧ x0 ≤ 5
      · have C0 := Lib.hid c0
        by_cases c1 : 1 ≤ x1 ∧ x1 ≤ 2000
        · have C1 := Lib.hid c1
          by_cases c2 : x1 ≤ x3 ∧ x3 ≤ 2000
          · have C2 := Lib.hid c2
            have ga4 : decide (x1 ≤ x3) = true := decide_eq_true (by omega)
            have gb4 : decide (x3 ≤ 2000) = true := decide_eq_true (by omega)
            have HV := Lib.hid (show true = ackOkB ⟨x0, x1, 0, x3⟩ by simp [ackOkB, askB, inB, q] <;> omega)
            clear c0 c1 c2
            go_enter Try.func32, Try.ntmps32
            go_wp2_with (first
              | (go_at_call 37; refine (AskerOk_yes x0 _ C0.out).mono ?_; rintro e w' ⟨rfl, rfl⟩)
              | (go_at_call 38; refine (l7Seq_yes x1 _ C1.out).mono ?_; rintro e w' ⟨rfl, rfl⟩)
              | (go_at_call 42; refine (in_any _ _ _ _).mono ?_; rintro e w' ⟨rfl, rfl⟩))
            go_ret
            exact ⟨ret_bool HV.out, C.out⟩
          · have C2 := Lib.hid c2
            have ga4 : (decide (x1 ≤ x3) && decide (x3 ≤ 2000)) = false := by rw [Bool.and_eq_false_iff, decide_eq_false_iff_not, decide_eq_false_iff_not]; omega
            have HV := Lib.hid (show false = ackOkB ⟨x0, x1, 0, x3⟩ by simp [ackOkB, askB, inB, q] <;> omega)
            clear c0 c1 c2
            go_enter Try.func32, Try.ntmps32
            go_wp2_with (first
              | (go_at_call 37; refine (AskerOk_yes x0 _ C0.out).mono ?_; rintro e w' ⟨rfl, rfl⟩)
              | (go_at_call 38; refine (l7Seq_yes x1 _ C1.out).mono ?_; rintro e w' ⟨rfl, rfl⟩)
              | (go_at_call 42; refine (in_any _ _ _ _).mono ?_; rintro e w' ⟨rfl, rfl⟩))
            go_ret
            exact ⟨ret_bool HV.out, C.out⟩
        · have C1 := Lib.hid c1
          have HV := Lib.hid (show false = ackOkB ⟨x0, x1, 0, x3⟩ by simp [ackOkB, askB, inB, q] <;> omega)
          clear c0 c1
          go_enter Try.func32, Try.ntmps32
          go_wp2_with (first
            | (go_at_call 37; refine (AskerOk_yes x0 _ C0.out).mono ?_; rintro e w' ⟨rfl, rfl⟩)
            | (go_at_call 38; refine (l7Seq_no x1 _ C1.out).mono ?_; rintro e w' ⟨rfl, rfl⟩))
          go_ret
          exact ⟨ret_bool HV.out, C.out⟩
      · have C0 := Lib.hid c0
        have HV := Lib.hid (show false = ackOkB ⟨x0, x1, 0, x3⟩ by simp [ackOkB, askB, inB, q] <;> omega)
        clear c0
        go_enter Try.func32, Try.ntmps32
        go_wp2_with (first
          | (go_at_call 37; refine (AskerOk_no x0 _ C0.out).mono ?_; rintro e w' ⟨rfl, rfl⟩))
        go_ret
        exact ⟨ret_bool HV.out, C.out⟩
    · have e7 : (x2 == 0) = false := by simpa using q2
      have d7 : decide (x2 = 0) = false := decide_eq_false q2
      by_cases c0 : 2 ≤ x0 ∧ x0 ≤ 5
      · have C0 := Lib.hid c0
        by_cases c1 : 1 ≤ x1 ∧ x1 ≤ 2000
        · have C1 := Lib.hid c1
          by_cases c2 : x1 ≤ x3 ∧ x3 ≤ 2000
          · have C2 := Lib.hid c2
            have ga4 : decide (x1 ≤ x3) = true := decide_eq_true (by omega)
            have gb4 : decide (x3 ≤ 2000) = true := decide_eq_true (by omega)
            have HV := Lib.hid (show false = ackOkB ⟨x0, x1, x2, x3⟩ by simp [ackOkB, askB, inB, q, q2] <;> omega)
            clear c0 c1 c2
            go_enter Try.func32, Try.ntmps32
            go_wp2_with (first
              | (go_at_call 37; refine (AskerOk_yes x0 _ C0.out).mono ?_; rintro e w' ⟨rfl, rfl⟩)
              | (go_at_call 38; refine (l7Seq_yes x1 _ C1.out).mono ?_; rintro e w' ⟨rfl, rfl⟩)
              | (go_at_call 42; refine (in_any _ _ _ _).mono ?_; rintro e w' ⟨rfl, rfl⟩))
            go_ret
            exact ⟨ret_bool HV.out, C.out⟩
          · have C2 := Lib.hid c2
            have ga4 : (decide (x1 ≤ x3) && decide (x3 ≤ 2000)) = false := by rw [Bool.and_eq_false_iff, decide_eq_false_iff_not, decide_eq_false_iff_not]; omega
            have HV := Lib.hid (show false = ackOkB ⟨x0, x1, x2, x3⟩ by simp [ackOkB, askB, inB, q, q2] <;> omega)
            clear c0 c1 c2
            go_enter Try.func32, Try.ntmps32
            go_wp2_with (first
              | (go_at_call 37; refine (AskerOk_yes x0 _ C0.out).mono ?_; rintro e w' ⟨rfl, rfl⟩)
              | (go_at_call 38; refine (l7Seq_yes x1 _ C1.out).mono ?_; rintro e w' ⟨rfl, rfl⟩)
              | (go_at_call 42; refine (in_any _ _ _ _).mono ?_; rintro e w' ⟨rfl, rfl⟩))
            go_ret
            exact ⟨ret_bool HV.out, C.out⟩
        · have C1 := Lib.hid c1
          have HV := Lib.hid (show false = ackOkB ⟨x0, x1, x2, x3⟩ by simp [ackOkB, askB, inB, q, q2] <;> omega)
          clear c0 c1
          go_enter Try.func32, Try.ntmps32
          go_wp2_with (first
            | (go_at_call 37; refine (AskerOk_yes x0 _ C0.out).mono ?_; rintro e w' ⟨rfl, rfl⟩)
            | (go_at_call 38; refine (l7Seq_no x1 _ C1.out).mono ?_; rintro e w' ⟨rfl, rfl⟩))
          go_ret
          exact ⟨ret_bool HV.out, C.out⟩
      · have C0 := Lib.hid c0
        have HV := Lib.hid (show false = ackOkB ⟨x0, x1, x2, x3⟩ by simp [ackOkB, askB, inB, q, q2] <;> omega)
        clear c0
        go_enter Try.func32, Try.ntmps32
        go_wp2_with (first
          | (go_at_call 37; refine (AskerOk_no x0 _ C0.out).mono ?_; rintro e w' ⟨rfl, rfl⟩))
        go_ret
        exact ⟨ret_bool HV.out, C.out⟩
  · have e9 : decide (x1 < x3) = false := decide_eq_false q
    have e8 : decide (x3 > x1) = false := decide_eq_false q
    by_cases c0 : 2 ≤ x0 ∧ x0 ≤ 5
    · have C0 := Lib.hid c0
      by_cases c1 : 1 ≤ x1 ∧ x1 ≤ 2000
      · have C1 := Lib.hid c1
        by_cases c2 : x1 ≤ x3 ∧ x3 ≤ 2000
        · have C2 := Lib.hid c2
          have ga4 : decide (x1 ≤ x3) = true := decide_eq_true (by omega)
          have gb4 : decide (x3 ≤ 2000) = true := decide_eq_true (by omega)
          by_cases c3 : 1 ≤ x2 ∧ x2 ≤ 2000
          · have C3 := Lib.hid c3
            have HV := Lib.hid (show true = ackOkB ⟨x0, x1, x2, x3⟩ by simp [ackOkB, askB, inB, q] <;> omega)
            clear c0 c1 c2 c3
            go_enter Try.func32, Try.ntmps32
            go_wp2_with (first
              | (go_at_call 37; refine (AskerOk_yes x0 _ C0.out).mono ?_; rintro e w' ⟨rfl, rfl⟩)
              | (go_at_call 38; refine (l7Seq_yes x1 _ C1.out).mono ?_; rintro e w' ⟨rfl, rfl⟩)
              | (go_at_call 42; refine (in_any _ _ _ _).mono ?_; rintro e w' ⟨rfl, rfl⟩)
              | (go_at_call 43; refine (l7Index_yes x2 _ C3.out).mono ?_; rintro e w' ⟨rfl, rfl⟩))
            go_ret
            exact ⟨ret_bool HV.out, C.out⟩
          · have C3 := Lib.hid c3
            have HV := Lib.hid (show false = ackOkB ⟨x0, x1, x2, x3⟩ by simp [ackOkB, askB, inB, q] <;> omega)
            clear c0 c1 c2 c3
            go_enter Try.func32, Try.ntmps32
            go_wp2_with (first
              | (go_at_call 37; refine (AskerOk_yes x0 _ C0.out).mono ?_; rintro e w' ⟨rfl, rfl⟩)
              | (go_at_call 38; refine (l7Seq_yes x1 _ C1.out).mono ?_; rintro e w' ⟨rfl, rfl⟩)
              | (go_at_call 42; refine (in_any _ _ _ _).mono ?_; rintro e w' ⟨rfl, rfl⟩)
              | (go_at_call 43; refine (l7Index_no x2 _ C3.out).mono ?_; rintro e w' ⟨rfl, rfl⟩))
            go_ret
            exact ⟨ret_bool HV.out, C.out⟩
        · have C2 := Lib.hid c2
          have ga4 : (decide (x1 ≤ x3) && decide (x3 ≤ 2000)) = false := by rw [Bool.and_eq_false_iff, decide_eq_false_iff_not, decide_eq_false_iff_not]; omega
          have HV := Lib.hid (show false = ackOkB ⟨x0, x1, x2, x3⟩ by simp [ackOkB, askB, inB, q] <;> omega)
          clear c0 c1 c2
          go_enter Try.func32, Try.ntmps32
          go_wp2_with (first
            | (go_at_call 37; refine (AskerOk_yes x0 _ C0.out).mono ?_; rintro e w' ⟨rfl, rfl⟩)
            | (go_at_call 38; refine (l7Seq_yes x1 _ C1.out).mono ?_; rintro e w' ⟨rfl, rfl⟩)
            | (go_at_call 42; refine (in_any _ _ _ _).mono ?_; rintro e w' ⟨rfl, rfl⟩))
          go_ret
          exact ⟨ret_bool HV.out, C.out⟩
      · have C1 := Lib.hid c1
        have HV := Lib.hid (show false = ackOkB ⟨x0, x1, x2, x3⟩ by simp [ackOkB, askB, inB, q] <;> omega)
        clear c0 c1
        go_enter Try.func32, Try.ntmps32
        go_wp2_with (first
          | (go_at_call 37; refine (AskerOk_yes x0 _ C0.out).mono ?_; rintro e w' ⟨rfl, rfl⟩)
          | (go_at_call 38; refine (l7Seq_no x1 _ C1.out).mono ?_; rintro e w' ⟨rfl, rfl⟩))
        go_ret
        exact ⟨ret_bool HV.out, C.out⟩
    · have C0 := Lib.hid c0
      have HV := Lib.hid (show false = ackOkB ⟨x0, x1, x2, x3⟩ by simp [ackOkB, askB, inB, q] <;> omega)
      clear c0
      go_enter Try.func32, Try.ntmps32
      go_wp2_with (first
        | (go_at_call 37; refine (AskerOk_no x0 _ C0.out).mono ?_; rintro e w' ⟨rfl, rfl⟩))
      go_ret
      exact ⟨ret_bool HV.out, C.out⟩

end Go.Proofs.Ytgjlfambaiakbaa
