/-
  Chapter 11: lists of jobs, of the model (by program, wip/gen/genletsj.py).
-/
import Derived.Test.YtepnghjmpbfmcaaLetSO
import Derived.RegionTactic
import Derived.BigQuiet
import Derived.Laws.EntriesVeiled
namespace Go.Proofs.Ytepnghjmpbfmcaa
set_option maxRecDepth 100000
open Go.RowKit

set_option linter.unusedSimpArgs false
set_option maxHeartbeats 6400000 in
theorem sJobsOk_any (x0 x1 x2 x3 x4 : Int) (A : Option Addr) (n cc B : Nat) (l : List TimerM) (w : World) (h : Rd w B [djD l] [.slice A n cc]) (hB : B ≤ w.heap.size) (hs : djSz l ≤ 1048577) :
    Calls Try.prog 39 #[.agg #[.int .i64 x0, .int .i64 x1, .int .i64 x2, .int .i64 x3, .int .i64 x4, .slice A n cc]] w fun e w' => e = .returned (.bool (jobsOkB ⟨x0, x1, x2, x3, x4, l⟩)) ∧ Below w.heap.size w w' := by
  have C := Lib.hid ((Below.refl w.heap.size w).alloc (Nat.le_refl _) (.cells #[.int .i64 x0, .int .i64 x1, .int .i64 x2, .int .i64 x3, .int .i64 x4, .slice A n cc] 25))
  have HR := Lib.hid (h.keep (C.out.mono hB))
  clear h
  by_cases q : x2 = 0
  · subst q
    by_cases c0 : 0 ≤ x0 ∧ x0 ≤ 2000
    · have C0 := Lib.hid c0
      have ga1 : decide (0 ≤ x0) = true := decide_eq_true (by omega)
      have gb1 : decide (x0 ≤ 2000) = true := decide_eq_true (by omega)
      by_cases c1 : 0 ≤ x1 ∧ x1 ≤ 1000000
      · have C1 := Lib.hid c1
        by_cases c2 : 0 ≤ x3 ∧ x3 ≤ 1000
        · have C2 := Lib.hid c2
          have ga2 : decide (0 ≤ x3) = true := decide_eq_true (by omega)
          have gb2 : decide (x3 ≤ 1000) = true := decide_eq_true (by omega)
          by_cases c3 : 0 ≤ x4 ∧ x4 ≤ 1001000
          · have C3 := Lib.hid c3
            have ga3 : decide (0 ≤ x4) = true := decide_eq_true (by omega)
            have gb3 : decide (x4 ≤ 1001000) = true := decide_eq_true (by omega)
            have HV := Lib.hid (show openB l = jobsOkB ⟨x0, x1, 0, x3, x4, l⟩ by simp [jobsOkB, schedB, inB, c0.1, c0.2, c1.1, c1.2, c2.1, c2.2, c3.1, c3.2])
            clear c0 c1 c2 c3
            go_enter Try.func39, Try.ntmps39
            go_wp2_with (first
              | (go_at_call 55; refine (in_any _ _ _ _).mono ?_; rintro e w' ⟨rfl, rfl⟩)
              | (go_at_call 56; refine (TimeOk_yes x1 _ C1.out).mono ?_; rintro e w' ⟨rfl, rfl⟩)
              | (go_at_call 55; refine (in_any _ _ _ _).mono ?_; rintro e w' ⟨rfl, rfl⟩)
              | (go_at_call 55; refine (in_any _ _ _ _).mono ?_; rintro e w' ⟨rfl, rfl⟩)
              | (go_at_call 58; refine (sOpen_any A n cc B l _ HR.out (Nat.le_trans hB C.out.size) hs).mono ?_; rintro e w' ⟨rfl, b⟩))
            have CC := Lib.hid (C.out.trans (b.mono C.out.size))
            clear b
            go_ret
            exact ⟨ret_bool HV.out, CC.out⟩
          · have C3 := Lib.hid c3
            have ga3 : (decide (0 ≤ x4) && decide (x4 ≤ 1001000)) = false := by rw [Bool.and_eq_false_iff, decide_eq_false_iff_not, decide_eq_false_iff_not]; omega
            have HV := Lib.hid (show false = jobsOkB ⟨x0, x1, 0, x3, x4, l⟩ by simp [jobsOkB, schedB, inB] <;> omega)
            clear c0 c1 c2 c3
            go_enter Try.func39, Try.ntmps39
            go_wp2_with (first
              | (go_at_call 55; refine (in_any _ _ _ _).mono ?_; rintro e w' ⟨rfl, rfl⟩)
              | (go_at_call 56; refine (TimeOk_yes x1 _ C1.out).mono ?_; rintro e w' ⟨rfl, rfl⟩)
              | (go_at_call 55; refine (in_any _ _ _ _).mono ?_; rintro e w' ⟨rfl, rfl⟩)
              | (go_at_call 55; refine (in_any _ _ _ _).mono ?_; rintro e w' ⟨rfl, rfl⟩))
            go_ret
            exact ⟨ret_bool HV.out, C.out⟩
        · have C2 := Lib.hid c2
          have ga2 : (decide (0 ≤ x3) && decide (x3 ≤ 1000)) = false := by rw [Bool.and_eq_false_iff, decide_eq_false_iff_not, decide_eq_false_iff_not]; omega
          have HV := Lib.hid (show false = jobsOkB ⟨x0, x1, 0, x3, x4, l⟩ by simp [jobsOkB, schedB, inB] <;> omega)
          clear c0 c1 c2
          go_enter Try.func39, Try.ntmps39
          go_wp2_with (first
            | (go_at_call 55; refine (in_any _ _ _ _).mono ?_; rintro e w' ⟨rfl, rfl⟩)
            | (go_at_call 56; refine (TimeOk_yes x1 _ C1.out).mono ?_; rintro e w' ⟨rfl, rfl⟩)
            | (go_at_call 55; refine (in_any _ _ _ _).mono ?_; rintro e w' ⟨rfl, rfl⟩))
          go_ret
          exact ⟨ret_bool HV.out, C.out⟩
      · have C1 := Lib.hid c1
        have HV := Lib.hid (show false = jobsOkB ⟨x0, x1, 0, x3, x4, l⟩ by simp [jobsOkB, schedB, inB] <;> omega)
        clear c0 c1
        go_enter Try.func39, Try.ntmps39
        go_wp2_with (first
          | (go_at_call 55; refine (in_any _ _ _ _).mono ?_; rintro e w' ⟨rfl, rfl⟩)
          | (go_at_call 56; refine (TimeOk_no x1 _ C1.out).mono ?_; rintro e w' ⟨rfl, rfl⟩))
        go_ret
        exact ⟨ret_bool HV.out, C.out⟩
    · have C0 := Lib.hid c0
      have ga1 : (decide (0 ≤ x0) && decide (x0 ≤ 2000)) = false := by rw [Bool.and_eq_false_iff, decide_eq_false_iff_not, decide_eq_false_iff_not]; omega
      have HV := Lib.hid (show false = jobsOkB ⟨x0, x1, 0, x3, x4, l⟩ by simp [jobsOkB, schedB, inB] <;> omega)
      clear c0
      go_enter Try.func39, Try.ntmps39
      go_wp2_with (first
        | (go_at_call 55; refine (in_any _ _ _ _).mono ?_; rintro e w' ⟨rfl, rfl⟩))
      go_ret
      exact ⟨ret_bool HV.out, C.out⟩
  · have e9 : (x2 == 0) = false := by simpa using q
    have d9 : decide (x2 = 0) = false := decide_eq_false q
    have HQ := Lib.hid q
    by_cases c0 : 0 ≤ x0 ∧ x0 ≤ 2000
    · have C0 := Lib.hid c0
      have ga1 : decide (0 ≤ x0) = true := decide_eq_true (by omega)
      have gb1 : decide (x0 ≤ 2000) = true := decide_eq_true (by omega)
      by_cases c1 : 0 ≤ x1 ∧ x1 ≤ 1000000
      · have C1 := Lib.hid c1
        by_cases c2 : 2 ≤ x2 ∧ x2 ≤ 3
        · have C2 := Lib.hid c2
          by_cases c3 : 0 ≤ x3 ∧ x3 ≤ 1000
          · have C3 := Lib.hid c3
            have ga2 : decide (0 ≤ x3) = true := decide_eq_true (by omega)
            have gb2 : decide (x3 ≤ 1000) = true := decide_eq_true (by omega)
            by_cases c4 : 0 ≤ x4 ∧ x4 ≤ 1001000
            · have C4 := Lib.hid c4
              have ga3 : decide (0 ≤ x4) = true := decide_eq_true (by omega)
              have gb3 : decide (x4 ≤ 1001000) = true := decide_eq_true (by omega)
              have HV := Lib.hid (show openB l = jobsOkB ⟨x0, x1, x2, x3, x4, l⟩ by simp [jobsOkB, inB, q, c0.1, c0.2, c1.1, c1.2, (schedB_iff x2).2 c2, c3.1, c3.2, c4.1, c4.2])
              clear c0 c1 c2 c3 c4
              go_enter Try.func39, Try.ntmps39
              go_wp2_with (first
                | (go_at_call 55; refine (in_any _ _ _ _).mono ?_; rintro e w' ⟨rfl, rfl⟩)
                | (go_at_call 56; refine (TimeOk_yes x1 _ C1.out).mono ?_; rintro e w' ⟨rfl, rfl⟩)
                | (go_at_call 57; refine (sSched_yes x2 _ C2.out).mono ?_; rintro e w' ⟨rfl, rfl⟩)
                | (go_at_call 55; refine (in_any _ _ _ _).mono ?_; rintro e w' ⟨rfl, rfl⟩)
                | (go_at_call 55; refine (in_any _ _ _ _).mono ?_; rintro e w' ⟨rfl, rfl⟩)
                | (go_at_call 58; refine (sOpen_any A n cc B l _ HR.out (Nat.le_trans hB C.out.size) hs).mono ?_; rintro e w' ⟨rfl, b⟩))
              have CC := Lib.hid (C.out.trans (b.mono C.out.size))
              clear b
              go_ret
              exact ⟨ret_bool HV.out, CC.out⟩
            · have C4 := Lib.hid c4
              have ga3 : (decide (0 ≤ x4) && decide (x4 ≤ 1001000)) = false := by rw [Bool.and_eq_false_iff, decide_eq_false_iff_not, decide_eq_false_iff_not]; omega
              have HV := Lib.hid (show false = jobsOkB ⟨x0, x1, x2, x3, x4, l⟩ by simp [jobsOkB, schedB, inB, q] <;> omega)
              clear c0 c1 c2 c3 c4
              go_enter Try.func39, Try.ntmps39
              go_wp2_with (first
                | (go_at_call 55; refine (in_any _ _ _ _).mono ?_; rintro e w' ⟨rfl, rfl⟩)
                | (go_at_call 56; refine (TimeOk_yes x1 _ C1.out).mono ?_; rintro e w' ⟨rfl, rfl⟩)
                | (go_at_call 57; refine (sSched_yes x2 _ C2.out).mono ?_; rintro e w' ⟨rfl, rfl⟩)
                | (go_at_call 55; refine (in_any _ _ _ _).mono ?_; rintro e w' ⟨rfl, rfl⟩)
                | (go_at_call 55; refine (in_any _ _ _ _).mono ?_; rintro e w' ⟨rfl, rfl⟩))
              go_ret
              exact ⟨ret_bool HV.out, C.out⟩
          · have C3 := Lib.hid c3
            have ga2 : (decide (0 ≤ x3) && decide (x3 ≤ 1000)) = false := by rw [Bool.and_eq_false_iff, decide_eq_false_iff_not, decide_eq_false_iff_not]; omega
            have HV := Lib.hid (show false = jobsOkB ⟨x0, x1, x2, x3, x4, l⟩ by simp [jobsOkB, schedB, inB, q] <;> omega)
            clear c0 c1 c2 c3
            go_enter Try.func39, Try.ntmps39
            go_wp2_with (first
              | (go_at_call 55; refine (in_any _ _ _ _).mono ?_; rintro e w' ⟨rfl, rfl⟩)
              | (go_at_call 56; refine (TimeOk_yes x1 _ C1.out).mono ?_; rintro e w' ⟨rfl, rfl⟩)
              | (go_at_call 57; refine (sSched_yes x2 _ C2.out).mono ?_; rintro e w' ⟨rfl, rfl⟩)
              | (go_at_call 55; refine (in_any _ _ _ _).mono ?_; rintro e w' ⟨rfl, rfl⟩))
            go_ret
            exact ⟨ret_bool HV.out, C.out⟩
        · have C2 := Lib.hid c2
          have HV := Lib.hid (show false = jobsOkB ⟨x0, x1, x2, x3, x4, l⟩ by simp [jobsOkB, schedB, inB, q] <;> omega)
          clear c0 c1 c2
          go_enter Try.func39, Try.ntmps39
          go_wp2_with (first
            | (go_at_call 55; refine (in_any _ _ _ _).mono ?_; rintro e w' ⟨rfl, rfl⟩)
            | (go_at_call 56; refine (TimeOk_yes x1 _ C1.out).mono ?_; rintro e w' ⟨rfl, rfl⟩)
            | (go_at_call 57; refine (sSched_no x2 _ C2.out).mono ?_; rintro e w' ⟨rfl, rfl⟩))
          go_ret
          exact ⟨ret_bool HV.out, C.out⟩
      · have C1 := Lib.hid c1
        have HV := Lib.hid (show false = jobsOkB ⟨x0, x1, x2, x3, x4, l⟩ by simp [jobsOkB, schedB, inB, q] <;> omega)
        clear c0 c1
        go_enter Try.func39, Try.ntmps39
        go_wp2_with (first
          | (go_at_call 55; refine (in_any _ _ _ _).mono ?_; rintro e w' ⟨rfl, rfl⟩)
          | (go_at_call 56; refine (TimeOk_no x1 _ C1.out).mono ?_; rintro e w' ⟨rfl, rfl⟩))
        go_ret
        exact ⟨ret_bool HV.out, C.out⟩
    · have C0 := Lib.hid c0
      have ga1 : (decide (0 ≤ x0) && decide (x0 ≤ 2000)) = false := by rw [Bool.and_eq_false_iff, decide_eq_false_iff_not, decide_eq_false_iff_not]; omega
      have HV := Lib.hid (show false = jobsOkB ⟨x0, x1, x2, x3, x4, l⟩ by simp [jobsOkB, schedB, inB, q] <;> omega)
      clear c0
      go_enter Try.func39, Try.ntmps39
      go_wp2_with (first
        | (go_at_call 55; refine (in_any _ _ _ _).mono ?_; rintro e w' ⟨rfl, rfl⟩))
      go_ret
      exact ⟨ret_bool HV.out, C.out⟩

theorem sJobsOk_at (x0 x1 x2 x3 x4 : Int) (A : Option Addr) (n c : Nat) (d0 : JobsM) (w : World) (h : Rd w w.heap.size d0.cells [.int .i64 x0, .int .i64 x1, .int .i64 x2, .int .i64 x3, .int .i64 x4, .slice A n c]) (hs : d0.sz ≤ 1048576) :
    Calls Try.prog 39 #[.agg #[.int .i64 x0, .int .i64 x1, .int .i64 x2, .int .i64 x3, .int .i64 x4, .slice A n c]] w fun e w' => e = .returned (.bool (jobsOkB d0)) ∧ Below w.heap.size w w' := by
  obtain ⟨l, rfl, h2⟩ := jobs_rd h
  exact sJobsOk_any x0 x1 x2 x3 x4 A n c w.heap.size l w h2 (Nat.le_refl _) (by have : djSz l ≤ 1048576 := hs; omega)

end Go.Proofs.Ytepnghjmpbfmcaa
