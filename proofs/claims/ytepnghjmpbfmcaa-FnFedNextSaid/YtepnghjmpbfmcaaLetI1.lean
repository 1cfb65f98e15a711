/-
  Chapter 11: validity of messages, of the program (by program, wip/gen/genleti1.py).
-/
import Derived.Test.YtepnghjmpbfmcaaLetN
import Derived.Test.YtepnghjmpbfmcaaEntI1
import Derived.Test.YtepnghjmpbfmcaaEntI2
import Derived.Test.YtepnghjmpbfmcaaKA
import Derived.RegionTactic
import Derived.BigQuiet
namespace Go.Proofs.Ytepnghjmpbfmcaa
set_option maxRecDepth 100000
open Go.RowKit

theorem iReq_yes (c s : Int) (w : World) (h : (2 ≤ c ∧ c ≤ 5) ∧ (1 ≤ s ∧ s ≤ 2000)) : Calls Try.prog 111 #[.int .i64 c, .int .i64 s] w fun e w' => e = .returned (.bool true) ∧ w = w' := by
  have H1 := Lib.hid h.1
  have H2 := Lib.hid h.2
  clear h
  go_enter Try.func111, Try.ntmps111
  go_wp2_with (first
    | (go_at_call 75; refine (i_AskerOk_yes c _ H1.out).mono ?_; rintro e w' ⟨rfl, rfl⟩)
    | (go_at_call 76; refine (i_isSeq_yes s _ H2.out).mono ?_; rintro e w' ⟨rfl, rfl⟩))
  go_ret
  exact ⟨rfl, rfl⟩
theorem iReq_no (c s : Int) (w : World) (h : ¬ ((2 ≤ c ∧ c ≤ 5) ∧ (1 ≤ s ∧ s ≤ 2000))) : Calls Try.prog 111 #[.int .i64 c, .int .i64 s] w fun e w' => e = .returned (.bool false) ∧ w = w' := by
  by_cases h1 : 2 ≤ c ∧ c ≤ 5
  · have H1 := Lib.hid h1
    have H2 := Lib.hid (show ¬ (1 ≤ s ∧ s ≤ 2000) from fun h2 => h ⟨h1, h2⟩)
    clear h h1
    go_enter Try.func111, Try.ntmps111
    go_wp2_with (first
      | (go_at_call 75; refine (i_AskerOk_yes c _ H1.out).mono ?_; rintro e w' ⟨rfl, rfl⟩)
      | (go_at_call 76; refine (i_isSeq_no s _ H2.out).mono ?_; rintro e w' ⟨rfl, rfl⟩))
    go_ret
    exact ⟨rfl, rfl⟩
  · have H1 := Lib.hid h1
    clear h h1
    go_enter Try.func111, Try.ntmps111
    go_wp2_with (first
      | (go_at_call 75; refine (i_AskerOk_no c _ H1.out).mono ?_; rintro e w' ⟨rfl, rfl⟩))
    go_ret
    exact ⟨rfl, rfl⟩

theorem i_isState_any (x : Int) (w : World) : Calls Try.prog 100 #[.int .i64 x] w fun e w' => e = .returned (.bool (inB x 0 2000)) ∧ w = w' := by
  go_enter Try.func100, Try.ntmps100
  go_wp2
  all_goals
    go_ret
    refine ⟨ret_bool ?_, rfl⟩
    first | rfl | (simp_all [inB]; done) | (rw [Bool.eq_iff_iff]; simp_all [inB] <;> omega) | (simp_all [inB] <;> omega)
theorem i_isState_yes (x : Int) (w : World) (h : 0 ≤ x ∧ x ≤ 2000) : Calls Try.prog 100 #[.int .i64 x] w fun e w' => e = .returned (.bool true) ∧ w = w' := by
  have := i_isState_any x w
  rw [(inB_iff _ _ _).2 h] at this
  exact this
theorem i_isState_no (x : Int) (w : World) (h : ¬ (0 ≤ x ∧ x ≤ 2000)) : Calls Try.prog 100 #[.int .i64 x] w fun e w' => e = .returned (.bool false) ∧ w = w' := by
  have := i_isState_any x w
  rw [show inB x 0 2000 = false from Bool.eq_false_iff.2 fun h9 => h ((inB_iff _ _ _).1 h9)] at this
  exact this
theorem i_isSched_any (x : Int) (w : World) : Calls Try.prog 101 #[.int .i64 x] w fun e w' => e = .returned (.bool (inB x 2 3)) ∧ w = w' := by
  go_enter Try.func101, Try.ntmps101
  go_wp2
  all_goals
    go_ret
    refine ⟨ret_bool ?_, rfl⟩
    first | rfl | (simp_all [inB]; done) | (rw [Bool.eq_iff_iff]; simp_all [inB] <;> omega) | (simp_all [inB] <;> omega)
theorem i_isSched_yes (x : Int) (w : World) (h : 2 ≤ x ∧ x ≤ 3) : Calls Try.prog 101 #[.int .i64 x] w fun e w' => e = .returned (.bool true) ∧ w = w' := by
  have := i_isSched_any x w
  rw [(inB_iff _ _ _).2 h] at this
  exact this
theorem i_isSched_no (x : Int) (w : World) (h : ¬ (2 ≤ x ∧ x ≤ 3)) : Calls Try.prog 101 #[.int .i64 x] w fun e w' => e = .returned (.bool false) ∧ w = w' := by
  have := i_isSched_any x w
  rw [show inB x 2 3 = false from Bool.eq_false_iff.2 fun h9 => h ((inB_iff _ _ _).1 h9)] at this
  exact this

set_option maxHeartbeats 6400000 in
theorem iAskFits_any (x0 x1 x2 x3 x4 x5 x6 : Int) (w : World) :
    Calls Try.prog 109 #[.agg #[.int .i64 x0, .int .i64 x1, .int .i64 x2, .int .i64 x3, .int .i64 x4, .int .i64 x5, .int .i64 x6]] w fun e w' => e = .returned (.bool (askOkB ⟨x0, x1, x2, x3, x4, x5, x6⟩)) ∧ Below w.heap.size w w' := by
  have C := Lib.hid ((Below.refl w.heap.size w).alloc (Nat.le_refl _) (.cells #[.int .i64 x0, .int .i64 x1, .int .i64 x2, .int .i64 x3, .int .i64 x4, .int .i64 x5, .int .i64 x6] 45))
  by_cases c0 : (2 ≤ x0 ∧ x0 ≤ 5) ∧ (1 ≤ x1 ∧ x1 ≤ 2000)
  · have C0 := Lib.hid c0
    have HV := Lib.hid (show opB ⟨x2, x3, x4, x5, x6⟩ = askOkB ⟨x0, x1, x2, x3, x4, x5, x6⟩ by simp [askOkB, AskM.op, askB, inB, c0.1.1, c0.1.2, c0.2.1, c0.2.2])
    clear c0
    go_enter Try.func109, Try.ntmps109
    go_wp2_with (first
      | (go_at_call 111; refine (iReq_yes x0 x1 _ C0.out).mono ?_; rintro e w' ⟨rfl, rfl⟩)
      | (go_at_call 112; refine (iOpOk_any x2 x3 x4 x5 x6 _).mono ?_; rintro e w' ⟨rfl, b⟩))
    have CC := Lib.hid (C.out.trans (b.mono C.out.size))
    clear b
    go_ret
    exact ⟨ret_bool HV.out, CC.out⟩
  · have C0 := Lib.hid c0
    have HV := Lib.hid (show false = askOkB ⟨x0, x1, x2, x3, x4, x5, x6⟩ by simp [askOkB, AskM.op, askB, inB] <;> omega)
    clear c0
    go_enter Try.func109, Try.ntmps109
    go_wp2_with (first
      | (go_at_call 111; refine (iReq_no x0 x1 _ C0.out).mono ?_; rintro e w' ⟨rfl, rfl⟩))
    go_ret
    exact ⟨ret_bool HV.out, C.out⟩

set_option maxHeartbeats 6400000 in
theorem iReadFits_any (x0 x1 x2 x3 : Int) (w : World) :
    Calls Try.prog 119 #[.agg #[.int .i64 x0, .int .i64 x1, .int .i64 x2, .int .i64 x3]] w fun e w' => e = .returned (.bool (readOkB ⟨x0, x1, x2, x3⟩)) ∧ Below w.heap.size w w' := by
  have C := Lib.hid ((Below.refl w.heap.size w).alloc (Nat.le_refl _) (.cells #[.int .i64 x0, .int .i64 x1, .int .i64 x2, .int .i64 x3] 60))
  by_cases c0 : (2 ≤ x0 ∧ x0 ≤ 5) ∧ (1 ≤ x1 ∧ x1 ≤ 2000)
  · have C0 := Lib.hid c0
    by_cases c1 : 0 ≤ x2 ∧ x2 ≤ 9
    · have C1 := Lib.hid c1
      by_cases c2 : 0 ≤ x3 ∧ x3 ≤ 2000
      · have C2 := Lib.hid c2
        have HV := Lib.hid (show true = readOkB ⟨x0, x1, x2, x3⟩ by simp [readOkB, askB, inB] <;> omega)
        clear c0 c1 c2
        go_enter Try.func119, Try.ntmps119
        go_wp2_with (first
          | (go_at_call 111; refine (iReq_yes x0 x1 _ C0.out).mono ?_; rintro e w' ⟨rfl, rfl⟩)
          | (go_at_call 78; refine (i_isKey_yes x2 _ C1.out).mono ?_; rintro e w' ⟨rfl, rfl⟩)
          | (go_at_call 100; refine (i_isState_yes x3 _ C2.out).mono ?_; rintro e w' ⟨rfl, rfl⟩))
        go_ret
        exact ⟨ret_bool HV.out, C.out⟩
      · have C2 := Lib.hid c2
        have HV := Lib.hid (show false = readOkB ⟨x0, x1, x2, x3⟩ by simp [readOkB, askB, inB] <;> omega)
        clear c0 c1 c2
        go_enter Try.func119, Try.ntmps119
        go_wp2_with (first
          | (go_at_call 111; refine (iReq_yes x0 x1 _ C0.out).mono ?_; rintro e w' ⟨rfl, rfl⟩)
          | (go_at_call 78; refine (i_isKey_yes x2 _ C1.out).mono ?_; rintro e w' ⟨rfl, rfl⟩)
          | (go_at_call 100; refine (i_isState_no x3 _ C2.out).mono ?_; rintro e w' ⟨rfl, rfl⟩))
        go_ret
        exact ⟨ret_bool HV.out, C.out⟩
    · have C1 := Lib.hid c1
      have HV := Lib.hid (show false = readOkB ⟨x0, x1, x2, x3⟩ by simp [readOkB, askB, inB] <;> omega)
      clear c0 c1
      go_enter Try.func119, Try.ntmps119
      go_wp2_with (first
        | (go_at_call 111; refine (iReq_yes x0 x1 _ C0.out).mono ?_; rintro e w' ⟨rfl, rfl⟩)
        | (go_at_call 78; refine (i_isKey_no x2 _ C1.out).mono ?_; rintro e w' ⟨rfl, rfl⟩))
      go_ret
      exact ⟨ret_bool HV.out, C.out⟩
  · have C0 := Lib.hid c0
    have HV := Lib.hid (show false = readOkB ⟨x0, x1, x2, x3⟩ by simp [readOkB, askB, inB] <;> omega)
    clear c0
    go_enter Try.func119, Try.ntmps119
    go_wp2_with (first
      | (go_at_call 111; refine (iReq_no x0 x1 _ C0.out).mono ?_; rintro e w' ⟨rfl, rfl⟩))
    go_ret
    exact ⟨ret_bool HV.out, C.out⟩

set_option maxHeartbeats 6400000 in
theorem iAckFits_any (x0 x1 x2 x3 : Int) (w : World) :
    Calls Try.prog 115 #[.agg #[.int .i64 x0, .int .i64 x1, .int .i64 x2, .int .i64 x3]] w fun e w' => e = .returned (.bool (ackOkB ⟨x0, x1, x2, x3⟩)) ∧ Below w.heap.size w w' := by
  have C := Lib.hid ((Below.refl w.heap.size w).alloc (Nat.le_refl _) (.cells #[.int .i64 x0, .int .i64 x1, .int .i64 x2, .int .i64 x3] 49))
  by_cases q : x1 < x3
  · have e9 : decide (x1 < x3) = true := decide_eq_true q
    have e8 : decide (x3 > x1) = true := decide_eq_true q
    by_cases q2 : x2 = 0
    · subst q2
      by_cases c0 : (2 ≤ x0 ∧ x0 ≤ 5) ∧ (1 ≤ x1 ∧ x1 ≤ 2000)
      · have C0 := Lib.hid c0
        by_cases c1 : x1 ≤ x3
        · have C1 := Lib.hid c1
          have g1 : decide (x3 < x1) = false := decide_eq_false (by omega)
          by_cases c2 : x3 ≤ 2000
          · have C2 := Lib.hid c2
            have g2 : decide (x3 > 2000) = false := decide_eq_false (by omega)
            have g3 : decide (2000 < x3) = false := decide_eq_false (by omega)
            have HV := Lib.hid (show true = ackOkB ⟨x0, x1, 0, x3⟩ by simp [ackOkB, q, askB, inB] <;> omega)
            clear c0 c1 c2
            go_enter Try.func115, Try.ntmps115
            go_wp2_with (first
              | (go_at_call 111; refine (iReq_yes x0 x1 _ C0.out).mono ?_; rintro e w' ⟨rfl, rfl⟩))
            go_ret
            exact ⟨ret_bool HV.out, C.out⟩
          · have C2 := Lib.hid c2
            have g2 : decide (x3 > 2000) = true := decide_eq_true (by omega)
            have g3 : decide (2000 < x3) = true := decide_eq_true (by omega)
            have HV := Lib.hid (show false = ackOkB ⟨x0, x1, 0, x3⟩ by simp [ackOkB, q, askB, inB] <;> omega)
            clear c0 c1 c2
            go_enter Try.func115, Try.ntmps115
            go_wp2_with (first
              | (go_at_call 111; refine (iReq_yes x0 x1 _ C0.out).mono ?_; rintro e w' ⟨rfl, rfl⟩))
            go_ret
            exact ⟨ret_bool HV.out, C.out⟩
        · have C1 := Lib.hid c1
          have g1 : decide (x3 < x1) = true := decide_eq_true (by omega)
          have HV := Lib.hid (show false = ackOkB ⟨x0, x1, 0, x3⟩ by simp [ackOkB, q, askB, inB] <;> omega)
          clear c0 c1
          go_enter Try.func115, Try.ntmps115
          go_wp2_with (first
            | (go_at_call 111; refine (iReq_yes x0 x1 _ C0.out).mono ?_; rintro e w' ⟨rfl, rfl⟩))
          go_ret
          exact ⟨ret_bool HV.out, C.out⟩
      · have C0 := Lib.hid c0
        have HV := Lib.hid (show false = ackOkB ⟨x0, x1, 0, x3⟩ by simp [ackOkB, q, askB, inB] <;> omega)
        clear c0
        go_enter Try.func115, Try.ntmps115
        go_wp2_with (first
          | (go_at_call 111; refine (iReq_no x0 x1 _ C0.out).mono ?_; rintro e w' ⟨rfl, rfl⟩))
        go_ret
        exact ⟨ret_bool HV.out, C.out⟩
    · have e7 : (x2 == 0) = false := by simpa using q2
      have d7 : decide (x2 = 0) = false := decide_eq_false q2
      by_cases c0 : (2 ≤ x0 ∧ x0 ≤ 5) ∧ (1 ≤ x1 ∧ x1 ≤ 2000)
      · have C0 := Lib.hid c0
        by_cases c1 : x1 ≤ x3
        · have C1 := Lib.hid c1
          have g1 : decide (x3 < x1) = false := decide_eq_false (by omega)
          by_cases c2 : x3 ≤ 2000
          · have C2 := Lib.hid c2
            have g2 : decide (x3 > 2000) = false := decide_eq_false (by omega)
            have g3 : decide (2000 < x3) = false := decide_eq_false (by omega)
            have HV := Lib.hid (show false = ackOkB ⟨x0, x1, x2, x3⟩ by simp [ackOkB, q, q2, askB, inB] <;> omega)
            clear c0 c1 c2
            go_enter Try.func115, Try.ntmps115
            go_wp2_with (first
              | (go_at_call 111; refine (iReq_yes x0 x1 _ C0.out).mono ?_; rintro e w' ⟨rfl, rfl⟩))
            go_ret
            exact ⟨ret_bool HV.out, C.out⟩
          · have C2 := Lib.hid c2
            have g2 : decide (x3 > 2000) = true := decide_eq_true (by omega)
            have g3 : decide (2000 < x3) = true := decide_eq_true (by omega)
            have HV := Lib.hid (show false = ackOkB ⟨x0, x1, x2, x3⟩ by simp [ackOkB, q, q2, askB, inB] <;> omega)
            clear c0 c1 c2
            go_enter Try.func115, Try.ntmps115
            go_wp2_with (first
              | (go_at_call 111; refine (iReq_yes x0 x1 _ C0.out).mono ?_; rintro e w' ⟨rfl, rfl⟩))
            go_ret
            exact ⟨ret_bool HV.out, C.out⟩
        · have C1 := Lib.hid c1
          have g1 : decide (x3 < x1) = true := decide_eq_true (by omega)
          have HV := Lib.hid (show false = ackOkB ⟨x0, x1, x2, x3⟩ by simp [ackOkB, q, q2, askB, inB] <;> omega)
          clear c0 c1
          go_enter Try.func115, Try.ntmps115
          go_wp2_with (first
            | (go_at_call 111; refine (iReq_yes x0 x1 _ C0.out).mono ?_; rintro e w' ⟨rfl, rfl⟩))
          go_ret
          exact ⟨ret_bool HV.out, C.out⟩
      · have C0 := Lib.hid c0
        have HV := Lib.hid (show false = ackOkB ⟨x0, x1, x2, x3⟩ by simp [ackOkB, q, q2, askB, inB] <;> omega)
        clear c0
        go_enter Try.func115, Try.ntmps115
        go_wp2_with (first
          | (go_at_call 111; refine (iReq_no x0 x1 _ C0.out).mono ?_; rintro e w' ⟨rfl, rfl⟩))
        go_ret
        exact ⟨ret_bool HV.out, C.out⟩
  · have e9 : decide (x1 < x3) = false := decide_eq_false q
    have e8 : decide (x3 > x1) = false := decide_eq_false q
    by_cases c0 : (2 ≤ x0 ∧ x0 ≤ 5) ∧ (1 ≤ x1 ∧ x1 ≤ 2000)
    · have C0 := Lib.hid c0
      by_cases c1 : x1 ≤ x3
      · have C1 := Lib.hid c1
        have g1 : decide (x3 < x1) = false := decide_eq_false (by omega)
        by_cases c2 : x3 ≤ 2000
        · have C2 := Lib.hid c2
          have g2 : decide (x3 > 2000) = false := decide_eq_false (by omega)
          have g3 : decide (2000 < x3) = false := decide_eq_false (by omega)
          by_cases c3 : 1 ≤ x2 ∧ x2 ≤ 2000
          · have C3 := Lib.hid c3
            have HV := Lib.hid (show true = ackOkB ⟨x0, x1, x2, x3⟩ by simp [ackOkB, q, askB, inB] <;> omega)
            clear c0 c1 c2 c3
            go_enter Try.func115, Try.ntmps115
            go_wp2_with (first
              | (go_at_call 111; refine (iReq_yes x0 x1 _ C0.out).mono ?_; rintro e w' ⟨rfl, rfl⟩)
              | (go_at_call 73; refine (i_isIndex_yes x2 _ C3.out).mono ?_; rintro e w' ⟨rfl, rfl⟩))
            go_ret
            exact ⟨ret_bool HV.out, C.out⟩
          · have C3 := Lib.hid c3
            have HV := Lib.hid (show false = ackOkB ⟨x0, x1, x2, x3⟩ by simp [ackOkB, q, askB, inB] <;> omega)
            clear c0 c1 c2 c3
            go_enter Try.func115, Try.ntmps115
            go_wp2_with (first
              | (go_at_call 111; refine (iReq_yes x0 x1 _ C0.out).mono ?_; rintro e w' ⟨rfl, rfl⟩)
              | (go_at_call 73; refine (i_isIndex_no x2 _ C3.out).mono ?_; rintro e w' ⟨rfl, rfl⟩))
            go_ret
            exact ⟨ret_bool HV.out, C.out⟩
        · have C2 := Lib.hid c2
          have g2 : decide (x3 > 2000) = true := decide_eq_true (by omega)
          have g3 : decide (2000 < x3) = true := decide_eq_true (by omega)
          have HV := Lib.hid (show false = ackOkB ⟨x0, x1, x2, x3⟩ by simp [ackOkB, q, askB, inB] <;> omega)
          clear c0 c1 c2
          go_enter Try.func115, Try.ntmps115
          go_wp2_with (first
            | (go_at_call 111; refine (iReq_yes x0 x1 _ C0.out).mono ?_; rintro e w' ⟨rfl, rfl⟩))
          go_ret
          exact ⟨ret_bool HV.out, C.out⟩
      · have C1 := Lib.hid c1
        have g1 : decide (x3 < x1) = true := decide_eq_true (by omega)
        have HV := Lib.hid (show false = ackOkB ⟨x0, x1, x2, x3⟩ by simp [ackOkB, q, askB, inB] <;> omega)
        clear c0 c1
        go_enter Try.func115, Try.ntmps115
        go_wp2_with (first
          | (go_at_call 111; refine (iReq_yes x0 x1 _ C0.out).mono ?_; rintro e w' ⟨rfl, rfl⟩))
        go_ret
        exact ⟨ret_bool HV.out, C.out⟩
    · have C0 := Lib.hid c0
      have HV := Lib.hid (show false = ackOkB ⟨x0, x1, x2, x3⟩ by simp [ackOkB, q, askB, inB] <;> omega)
      clear c0
      go_enter Try.func115, Try.ntmps115
      go_wp2_with (first
        | (go_at_call 111; refine (iReq_no x0 x1 _ C0.out).mono ?_; rintro e w' ⟨rfl, rfl⟩))
      go_ret
      exact ⟨ret_bool HV.out, C.out⟩

set_option maxHeartbeats 6400000 in
theorem iValueFits_any (x0 x1 x2 x3 x4 : Int) (w : World) :
    Calls Try.prog 121 #[.agg #[.int .i64 x0, .int .i64 x1, .int .i64 x2, .int .i64 x3, .int .i64 x4]] w fun e w' => e = .returned (.bool (valueOkB ⟨x0, x1, x2, x3, x4⟩)) ∧ Below w.heap.size w w' := by
  have C := Lib.hid ((Below.refl w.heap.size w).alloc (Nat.le_refl _) (.cells #[.int .i64 x0, .int .i64 x1, .int .i64 x2, .int .i64 x3, .int .i64 x4] 64))
  by_cases q : x3 = 0
  · subst q
    by_cases q2 : x4 = 0
    · subst q2
      by_cases c0 : (2 ≤ x0 ∧ x0 ≤ 5) ∧ (1 ≤ x1 ∧ x1 ≤ 2000)
      · have C0 := Lib.hid c0
        by_cases c1 : 0 ≤ x2 ∧ x2 ≤ 2000
        · have C1 := Lib.hid c1
          have HV := Lib.hid (show true = valueOkB ⟨x0, x1, x2, 0, 0⟩ by simp [valueOkB, askB, inB] <;> omega)
          clear c0 c1
          go_enter Try.func121, Try.ntmps121
          go_wp2_with (first
            | (go_at_call 111; refine (iReq_yes x0 x1 _ C0.out).mono ?_; rintro e w' ⟨rfl, rfl⟩)
            | (go_at_call 100; refine (i_isState_yes x2 _ C1.out).mono ?_; rintro e w' ⟨rfl, rfl⟩))
          go_ret
          exact ⟨ret_bool HV.out, C.out⟩
        · have C1 := Lib.hid c1
          have HV := Lib.hid (show false = valueOkB ⟨x0, x1, x2, 0, 0⟩ by simp [valueOkB, askB, inB] <;> omega)
          clear c0 c1
          go_enter Try.func121, Try.ntmps121
          go_wp2_with (first
            | (go_at_call 111; refine (iReq_yes x0 x1 _ C0.out).mono ?_; rintro e w' ⟨rfl, rfl⟩)
            | (go_at_call 100; refine (i_isState_no x2 _ C1.out).mono ?_; rintro e w' ⟨rfl, rfl⟩))
          go_ret
          exact ⟨ret_bool HV.out, C.out⟩
      · have C0 := Lib.hid c0
        have HV := Lib.hid (show false = valueOkB ⟨x0, x1, x2, 0, 0⟩ by simp [valueOkB, askB, inB] <;> omega)
        clear c0
        go_enter Try.func121, Try.ntmps121
        go_wp2_with (first
          | (go_at_call 111; refine (iReq_no x0 x1 _ C0.out).mono ?_; rintro e w' ⟨rfl, rfl⟩))
        go_ret
        exact ⟨ret_bool HV.out, C.out⟩
    · have e7 : (x4 == 0) = false := by simpa using q2
      have d7 : decide (x4 = 0) = false := decide_eq_false q2
      by_cases c0 : (2 ≤ x0 ∧ x0 ≤ 5) ∧ (1 ≤ x1 ∧ x1 ≤ 2000)
      · have C0 := Lib.hid c0
        by_cases c1 : 0 ≤ x2 ∧ x2 ≤ 2000
        · have C1 := Lib.hid c1
          have HV := Lib.hid (show false = valueOkB ⟨x0, x1, x2, 0, x4⟩ by simp [valueOkB, q2, askB, inB] <;> omega)
          clear c0 c1
          go_enter Try.func121, Try.ntmps121
          go_wp2_with (first
            | (go_at_call 111; refine (iReq_yes x0 x1 _ C0.out).mono ?_; rintro e w' ⟨rfl, rfl⟩)
            | (go_at_call 100; refine (i_isState_yes x2 _ C1.out).mono ?_; rintro e w' ⟨rfl, rfl⟩))
          go_ret
          exact ⟨ret_bool HV.out, C.out⟩
        · have C1 := Lib.hid c1
          have HV := Lib.hid (show false = valueOkB ⟨x0, x1, x2, 0, x4⟩ by simp [valueOkB, q2, askB, inB] <;> omega)
          clear c0 c1
          go_enter Try.func121, Try.ntmps121
          go_wp2_with (first
            | (go_at_call 111; refine (iReq_yes x0 x1 _ C0.out).mono ?_; rintro e w' ⟨rfl, rfl⟩)
            | (go_at_call 100; refine (i_isState_no x2 _ C1.out).mono ?_; rintro e w' ⟨rfl, rfl⟩))
          go_ret
          exact ⟨ret_bool HV.out, C.out⟩
      · have C0 := Lib.hid c0
        have HV := Lib.hid (show false = valueOkB ⟨x0, x1, x2, 0, x4⟩ by simp [valueOkB, q2, askB, inB] <;> omega)
        clear c0
        go_enter Try.func121, Try.ntmps121
        go_wp2_with (first
          | (go_at_call 111; refine (iReq_no x0 x1 _ C0.out).mono ?_; rintro e w' ⟨rfl, rfl⟩))
        go_ret
        exact ⟨ret_bool HV.out, C.out⟩
  · have e9 : (x3 == 0) = false := by simpa using q
    have d9 : decide (x3 = 0) = false := decide_eq_false q
    by_cases q2 : x3 = 1
    · subst q2
      by_cases c0 : (2 ≤ x0 ∧ x0 ≤ 5) ∧ (1 ≤ x1 ∧ x1 ≤ 2000)
      · have C0 := Lib.hid c0
        by_cases c1 : 0 ≤ x2 ∧ x2 ≤ 2000
        · have C1 := Lib.hid c1
          by_cases c2 : 0 ≤ x4 ∧ x4 ≤ 999
          · have C2 := Lib.hid c2
            have HV := Lib.hid (show true = valueOkB ⟨x0, x1, x2, 1, x4⟩ by simp [valueOkB, askB, inB] <;> omega)
            clear c0 c1 c2
            go_enter Try.func121, Try.ntmps121
            go_wp2_with (first
              | (go_at_call 111; refine (iReq_yes x0 x1 _ C0.out).mono ?_; rintro e w' ⟨rfl, rfl⟩)
              | (go_at_call 100; refine (i_isState_yes x2 _ C1.out).mono ?_; rintro e w' ⟨rfl, rfl⟩)
              | (go_at_call 79; refine (i_isValue_yes x4 _ C2.out).mono ?_; rintro e w' ⟨rfl, rfl⟩))
            go_ret
            exact ⟨ret_bool HV.out, C.out⟩
          · have C2 := Lib.hid c2
            have HV := Lib.hid (show false = valueOkB ⟨x0, x1, x2, 1, x4⟩ by simp [valueOkB, askB, inB] <;> omega)
            clear c0 c1 c2
            go_enter Try.func121, Try.ntmps121
            go_wp2_with (first
              | (go_at_call 111; refine (iReq_yes x0 x1 _ C0.out).mono ?_; rintro e w' ⟨rfl, rfl⟩)
              | (go_at_call 100; refine (i_isState_yes x2 _ C1.out).mono ?_; rintro e w' ⟨rfl, rfl⟩)
              | (go_at_call 79; refine (i_isValue_no x4 _ C2.out).mono ?_; rintro e w' ⟨rfl, rfl⟩))
            go_ret
            exact ⟨ret_bool HV.out, C.out⟩
        · have C1 := Lib.hid c1
          have HV := Lib.hid (show false = valueOkB ⟨x0, x1, x2, 1, x4⟩ by simp [valueOkB, askB, inB] <;> omega)
          clear c0 c1
          go_enter Try.func121, Try.ntmps121
          go_wp2_with (first
            | (go_at_call 111; refine (iReq_yes x0 x1 _ C0.out).mono ?_; rintro e w' ⟨rfl, rfl⟩)
            | (go_at_call 100; refine (i_isState_no x2 _ C1.out).mono ?_; rintro e w' ⟨rfl, rfl⟩))
          go_ret
          exact ⟨ret_bool HV.out, C.out⟩
      · have C0 := Lib.hid c0
        have HV := Lib.hid (show false = valueOkB ⟨x0, x1, x2, 1, x4⟩ by simp [valueOkB, askB, inB] <;> omega)
        clear c0
        go_enter Try.func121, Try.ntmps121
        go_wp2_with (first
          | (go_at_call 111; refine (iReq_no x0 x1 _ C0.out).mono ?_; rintro e w' ⟨rfl, rfl⟩))
        go_ret
        exact ⟨ret_bool HV.out, C.out⟩
    · have e7 : (x3 == 1) = false := by simpa using q2
      have d7 : decide (x3 = 1) = false := decide_eq_false q2
      by_cases c0 : (2 ≤ x0 ∧ x0 ≤ 5) ∧ (1 ≤ x1 ∧ x1 ≤ 2000)
      · have C0 := Lib.hid c0
        by_cases c1 : 0 ≤ x2 ∧ x2 ≤ 2000
        · have C1 := Lib.hid c1
          have HV := Lib.hid (show false = valueOkB ⟨x0, x1, x2, x3, x4⟩ by simp [valueOkB, q2, askB, inB] <;> omega)
          clear c0 c1
          go_enter Try.func121, Try.ntmps121
          go_wp2_with (first
            | (go_at_call 111; refine (iReq_yes x0 x1 _ C0.out).mono ?_; rintro e w' ⟨rfl, rfl⟩)
            | (go_at_call 100; refine (i_isState_yes x2 _ C1.out).mono ?_; rintro e w' ⟨rfl, rfl⟩))
          go_ret
          exact ⟨ret_bool HV.out, C.out⟩
        · have C1 := Lib.hid c1
          have HV := Lib.hid (show false = valueOkB ⟨x0, x1, x2, x3, x4⟩ by simp [valueOkB, q2, askB, inB] <;> omega)
          clear c0 c1
          go_enter Try.func121, Try.ntmps121
          go_wp2_with (first
            | (go_at_call 111; refine (iReq_yes x0 x1 _ C0.out).mono ?_; rintro e w' ⟨rfl, rfl⟩)
            | (go_at_call 100; refine (i_isState_no x2 _ C1.out).mono ?_; rintro e w' ⟨rfl, rfl⟩))
          go_ret
          exact ⟨ret_bool HV.out, C.out⟩
      · have C0 := Lib.hid c0
        have HV := Lib.hid (show false = valueOkB ⟨x0, x1, x2, x3, x4⟩ by simp [valueOkB, q2, askB, inB] <;> omega)
        clear c0
        go_enter Try.func121, Try.ntmps121
        go_wp2_with (first
          | (go_at_call 111; refine (iReq_no x0 x1 _ C0.out).mono ?_; rintro e w' ⟨rfl, rfl⟩))
        go_ret
        exact ⟨ret_bool HV.out, C.out⟩

theorem iFetchFits_any (x : Int) (w : World) : Calls Try.prog 123 #[.int .i64 x] w fun e w' => e = .returned (.bool (inB x 1 2001)) ∧ Below w.heap.size w w' := by
  go_enter Try.func123, Try.ntmps123
  go_wp2
  all_goals
    go_ret
    refine ⟨ret_bool ?_, Below.refl _ _⟩
    first | rfl | (simp_all [inB]; done) | (rw [Bool.eq_iff_iff]; simp_all [inB] <;> omega) | (simp_all [inB] <;> omega)
theorem iTrimFits_any (x : Int) (w : World) : Calls Try.prog 125 #[.int .i64 x] w fun e w' => e = .returned (.bool (inB x 1 2000)) ∧ Below w.heap.size w w' := by
  go_enter Try.func125, Try.ntmps125
  go_wp2_with (first | (go_at_call 73; refine (i_isIndex_any x w).mono ?_; rintro e w' ⟨rfl, rfl⟩))
  go_ret
  exact ⟨rfl, Below.refl _ _⟩
theorem iPollFits_any (x : Int) (w : World) : Calls Try.prog 127 #[.int .i64 x] w fun e w' => e = .returned (.bool (schedB x)) ∧ Below w.heap.size w w' := by
  go_enter Try.func127, Try.ntmps127
  go_wp2_with (first | (go_at_call 101; refine (i_isSched_any x w).mono ?_; rintro e w' ⟨rfl, rfl⟩))
  go_ret
  exact ⟨ret_bool (by rw [Bool.eq_iff_iff, schedB_iff, inB_iff]), Below.refl _ _⟩

end Go.Proofs.Ytepnghjmpbfmcaa
