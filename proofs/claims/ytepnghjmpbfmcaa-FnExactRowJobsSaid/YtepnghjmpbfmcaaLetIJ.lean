/-
  Chapter 11: open jobs and lists of jobs, of the program (by program, wip/gen/genletij.py).
-/
import Derived.Test.YtepnghjmpbfmcaaLetIO
import Derived.Test.YtepnghjmpbfmcaaLetI1
import Derived.RegionTactic
import Derived.BigQuiet
import Derived.Laws.EntriesVeiled
namespace Go.Proofs.Ytepnghjmpbfmcaa
set_option maxRecDepth 100000
open Go.RowKit

set_option linter.unusedSimpArgs false
set_option maxHeartbeats 6400000 in
theorem iOpen_any (A : Option Addr) (n cc B : Nat) (l : List TimerM) (w : World) (h : Rd w B [djD l] [.slice A n cc]) (hB : B ≤ w.heap.size) (hs : djSz l ≤ 1048577) :
    Calls Try.prog 102 #[.slice A n cc] w fun e w' => e = .returned (.bool (openB l)) ∧ Below w.heap.size w w' := by
  have HH := Lib.hid h
  obtain ⟨_, _, _, e, hl, _, _, hel⟩ := h.djs
  injection e with e1 e2 e3
  subst e1 e2 e3
  have HL := Lib.hid hl
  have hn : n ≤ 1048577 := by unfold djSz at hs; omega
  clear h hl hs
  by_cases h16 : 8 < n
  case pos =>
    have HD := Lib.hid (openB_long (l := l) (by have := HL.out; omega))
    clear hel
    go_enter Try.func102, Try.ntmps102
    go_wp2
    go_ret
    exact ⟨ret_bool HD.out.symm, Below.refl _ _⟩
  case neg =>
    go_enter Try.func102, Try.ntmps102
    go_wp2
    go_loopw [11] (fun i wr => ∃ j : Nat, j ≤ n ∧ i = .int .i64 (j : Int) ∧ (l.take j).all dueB = true ∧ Below w.heap.size w wr) (fun i _ => n - (intOf i).toNat)
    case atStart => exact ⟨0, Nat.zero_le _, rfl, by simp, Below.refl _ _⟩
    case round =>
      obtain ⟨j, hj, rfl, hall, c⟩ := hrel
      by_cases hlt : j < n
      · obtain ⟨b, off, rfl, hb, hc⟩ := hel (by omega)
        have hjl : j < l.length := by have := HL.out; omega
        obtain ⟨hc0, hc1⟩ := hc j hjl
        have cs0 := (c.cell (p := ⟨b, off + j * 2, none⟩) (show b < _ by omega)).trans hc0
        have cs1 := (c.cell (p := ⟨b, off + j * 2 + 1, none⟩) (show b < _ by omega)).trans hc1
        obtain ⟨x0, hx0⟩ : ∃ q, q = l[j].tid := ⟨_, rfl⟩
        obtain ⟨x1, hx1⟩ : ∃ q, q = l[j].due := ⟨_, rfl⟩
        rw [← hx0] at cs0
        rw [← hx1] at cs1
        have hmk : l[j] = ⟨x0, x1⟩ := by rw [hx0, hx1]
        have HM := Lib.hid hmk
        have HA := Lib.hid hall
        have HJ := Lib.hid hjl
        have C2 := Lib.hid (c.alloc c.size (.cells #[.int .i64 x0, .int .i64 x1] 80))
        clear hx0 hx1 hmk hc hc0 hc1 hel hall c
        by_cases c0 : 1 ≤ x0 ∧ x0 ≤ 20
        case neg =>
          have C0 := Lib.hid c0
          have HD := Lib.hid (openB_bad (all_less HJ.out (by rw [HM.out]; unfold dueB inB; simp; omega)))
          clear c0
          go_wp2_with (first
            | (go_at_call 80; refine (i_isId_no x0 _ C0.out).mono ?_; rintro e w' ⟨rfl, rfl⟩))
          go_ret
          exact ⟨ret_bool HD.out.symm, C2.out⟩
        case pos =>
          have C0 := Lib.hid c0
          by_cases c1 : 0 ≤ x1 ∧ x1 ≤ 1000000
          case neg =>
            have C1 := Lib.hid c1
            have HD := Lib.hid (openB_bad (all_less HJ.out (by rw [HM.out]; unfold dueB inB; simp; omega)))
            clear c0 c1
            go_wp2_with (first
              | (go_at_call 80; refine (i_isId_yes x0 _ C0.out).mono ?_; rintro e w' ⟨rfl, rfl⟩)
              | (go_at_call 74; refine (i_TimeOk_no x1 _ C1.out).mono ?_; rintro e w' ⟨rfl, rfl⟩))
            go_ret
            exact ⟨ret_bool HD.out.symm, C2.out⟩
          case pos =>
            have C1 := Lib.hid c1
            have HN := Lib.hid (all_more HJ.out HA.out (by rw [HM.out]; unfold dueB inB; simp; omega))
            clear c0 c1
            go_wp2_with (first
              | (go_at_call 80; refine (i_isId_yes x0 _ C0.out).mono ?_; rintro e w' ⟨rfl, rfl⟩)
              | (go_at_call 74; refine (i_TimeOk_yes x1 _ C1.out).mono ?_; rintro e w' ⟨rfl, rfl⟩))
            go_roundw
            case rel => exact ⟨j + 1, by omega, by go_num, HN.out, C2.out⟩
            case measure => simp [intOf]; omega
      · have HT := Lib.hid (openB_mid (l := l) (by have := HL.out; omega) (by rw [List.take_of_length_le (by have := HL.out; omega)] at hall; exact hall))
        have C2 := Lib.hid (c.alloc c.size (.cells #[.slice A n cc, .func (.func 103) #[] #[], .func (.func 104) #[] #[]] 141))
        have P2 := Lib.hid (Blk.new wr #[.slice A n cc, .func (.func 103) #[] #[], .func (.func 104) #[] #[]] 141)
        clear hall hel c
        have e0 : (wr.alloc (.cells #[.slice A n cc, .func (.func 103) #[] #[], .func (.func 104) #[] #[]] 141)).cell? ⟨wr.heap.size, 0, none⟩ = some (.slice A n cc) := P2.out.cell 0
        have e1 : (wr.alloc (.cells #[.slice A n cc, .func (.func 103) #[] #[], .func (.func 104) #[] #[]] 141)).cell? ⟨wr.heap.size, 1, none⟩ = some (.func (.func 103) #[] #[]) := P2.out.cell 1
        have e2 : (wr.alloc (.cells #[.slice A n cc, .func (.func 103) #[] #[], .func (.func 104) #[] #[]] 141)).cell? ⟨wr.heap.size, 2, none⟩ = some (.func (.func 104) #[] #[]) := P2.out.cell 2
        have lt1 := P2.out.lt
        have hB2 := Nat.le_trans hB C2.out.size
        go_wp2_with fail
        refine (iOrderD_any A n cc B l _ (HH.out.keep (C2.out.mono hB)) hB2 hn).mono ?_
        rintro e w3 ⟨rfl, b3⟩
        have C3 := Lib.hid (C2.out.trans (b3.mono C2.out.size))
        have hB3 := Nat.le_trans hB C3.out.size
        have r0 : w3.cell? ⟨wr.heap.size, 0, none⟩ = some (.slice A n cc) := (b3.cell (p := ⟨wr.heap.size, 0, none⟩) lt1).trans e0
        have r1 : w3.cell? ⟨wr.heap.size, 1, none⟩ = some (.func (.func 103) #[] #[]) := (b3.cell (p := ⟨wr.heap.size, 1, none⟩) lt1).trans e1
        have r2 : w3.cell? ⟨wr.heap.size, 2, none⟩ = some (.func (.func 104) #[] #[]) := (b3.cell (p := ⟨wr.heap.size, 2, none⟩) lt1).trans e2
        clear b3 e0 e1 e2 lt1
        cases ho : ordB l
        case false =>
          have HE := Lib.hid (show openB l = false by rw [HT.out, ho]; rfl)
          clear ho
          go_wp2
          go_ret
          exact ⟨ret_bool HE.out.symm, C3.out⟩
        case true =>
          have HE := Lib.hid (show openB l = disB l by rw [HT.out, ho]; rfl)
          clear ho
          go_wp2_with fail
          refine (iDistinctD_any A n cc B l _ (HH.out.keep (C3.out.mono hB)) hB3 hn).mono ?_
          rintro e w4 ⟨rfl, b4⟩
          have C4 := Lib.hid (C3.out.trans (b4.mono C3.out.size))
          clear b4
          go_wp2
          go_ret
          exact ⟨ret_bool HE.out.symm, C4.out⟩

set_option maxHeartbeats 6400000 in
theorem iJobsFits_any (x0 x1 x2 x3 x4 : Int) (A : Option Addr) (n cc B : Nat) (l : List TimerM) (w : World) (h : Rd w B [djD l] [.slice A n cc]) (hB : B ≤ w.heap.size) (hs : djSz l ≤ 1048577) :
    Calls Try.prog 99 #[.agg #[.int .i64 x0, .int .i64 x1, .int .i64 x2, .int .i64 x3, .int .i64 x4, .slice A n cc]] w fun e w' => e = .returned (.bool (jobsOkB ⟨x0, x1, x2, x3, x4, l⟩)) ∧ Below w.heap.size w w' := by
  have C := Lib.hid ((Below.refl w.heap.size w).alloc (Nat.le_refl _) (.cells #[.int .i64 x0, .int .i64 x1, .int .i64 x2, .int .i64 x3, .int .i64 x4, .slice A n cc] 25))
  have HR := Lib.hid (h.keep (C.out.mono hB))
  clear h
  by_cases q : x2 = 0
  · subst q
    by_cases c0 : 0 ≤ x0 ∧ x0 ≤ 2000
    · have C0 := Lib.hid c0
      by_cases c1 : 0 ≤ x1 ∧ x1 ≤ 1000000
      · have C1 := Lib.hid c1
        by_cases c2 : 0 ≤ x3 ∧ x3 ≤ 1000
        · have C2 := Lib.hid c2
          by_cases c3 : 0 ≤ x4
          · have C3 := Lib.hid c3
            have g1 : decide (x4 < 0) = false := decide_eq_false (by omega)
            by_cases c4 : x4 ≤ 1001000
            · have C4 := Lib.hid c4
              have g2 : decide (x4 > 1001000) = false := decide_eq_false (by omega)
              have g3 : decide (1001000 < x4) = false := decide_eq_false (by omega)
              have HV := Lib.hid (show openB l = jobsOkB ⟨x0, x1, 0, x3, x4, l⟩ by simp [jobsOkB, schedB, inB, c0.1, c0.2, c1.1, c1.2, c2.1, c2.2, c3, c4])
              clear c0 c1 c2 c3 c4
              go_enter Try.func99, Try.ntmps99
              go_wp2_with (first
                | (go_at_call 100; refine (i_isState_yes x0 _ C0.out).mono ?_; rintro e w' ⟨rfl, rfl⟩)
                | (go_at_call 74; refine (i_TimeOk_yes x1 _ C1.out).mono ?_; rintro e w' ⟨rfl, rfl⟩)
                | (go_at_call 81; refine (i_isEpoch_yes x3 _ C2.out).mono ?_; rintro e w' ⟨rfl, rfl⟩)
                | (go_at_call 102; refine (iOpen_any A n cc B l _ HR.out (Nat.le_trans hB C.out.size) hs).mono ?_; rintro e w' ⟨rfl, b⟩))
              have CC := Lib.hid (C.out.trans (b.mono C.out.size))
              clear b
              go_ret
              exact ⟨ret_bool HV.out, CC.out⟩
            · have C4 := Lib.hid c4
              have g2 : decide (x4 > 1001000) = true := decide_eq_true (by omega)
              have g3 : decide (1001000 < x4) = true := decide_eq_true (by omega)
              have HV := Lib.hid (show false = jobsOkB ⟨x0, x1, 0, x3, x4, l⟩ by simp [jobsOkB, schedB, inB] <;> omega)
              clear c0 c1 c2 c3 c4
              go_enter Try.func99, Try.ntmps99
              go_wp2_with (first
                | (go_at_call 100; refine (i_isState_yes x0 _ C0.out).mono ?_; rintro e w' ⟨rfl, rfl⟩)
                | (go_at_call 74; refine (i_TimeOk_yes x1 _ C1.out).mono ?_; rintro e w' ⟨rfl, rfl⟩)
                | (go_at_call 81; refine (i_isEpoch_yes x3 _ C2.out).mono ?_; rintro e w' ⟨rfl, rfl⟩))
              go_ret
              exact ⟨ret_bool HV.out, C.out⟩
          · have C3 := Lib.hid c3
            have g1 : decide (x4 < 0) = true := decide_eq_true (by omega)
            have HV := Lib.hid (show false = jobsOkB ⟨x0, x1, 0, x3, x4, l⟩ by simp [jobsOkB, schedB, inB] <;> omega)
            clear c0 c1 c2 c3
            go_enter Try.func99, Try.ntmps99
            go_wp2_with (first
              | (go_at_call 100; refine (i_isState_yes x0 _ C0.out).mono ?_; rintro e w' ⟨rfl, rfl⟩)
              | (go_at_call 74; refine (i_TimeOk_yes x1 _ C1.out).mono ?_; rintro e w' ⟨rfl, rfl⟩)
              | (go_at_call 81; refine (i_isEpoch_yes x3 _ C2.out).mono ?_; rintro e w' ⟨rfl, rfl⟩))
            go_ret
            exact ⟨ret_bool HV.out, C.out⟩
        · have C2 := Lib.hid c2
          have HV := Lib.hid (show false = jobsOkB ⟨x0, x1, 0, x3, x4, l⟩ by simp [jobsOkB, schedB, inB] <;> omega)
          clear c0 c1 c2
          go_enter Try.func99, Try.ntmps99
          go_wp2_with (first
            | (go_at_call 100; refine (i_isState_yes x0 _ C0.out).mono ?_; rintro e w' ⟨rfl, rfl⟩)
            | (go_at_call 74; refine (i_TimeOk_yes x1 _ C1.out).mono ?_; rintro e w' ⟨rfl, rfl⟩)
            | (go_at_call 81; refine (i_isEpoch_no x3 _ C2.out).mono ?_; rintro e w' ⟨rfl, rfl⟩))
          go_ret
          exact ⟨ret_bool HV.out, C.out⟩
      · have C1 := Lib.hid c1
        have HV := Lib.hid (show false = jobsOkB ⟨x0, x1, 0, x3, x4, l⟩ by simp [jobsOkB, schedB, inB] <;> omega)
        clear c0 c1
        go_enter Try.func99, Try.ntmps99
        go_wp2_with (first
          | (go_at_call 100; refine (i_isState_yes x0 _ C0.out).mono ?_; rintro e w' ⟨rfl, rfl⟩)
          | (go_at_call 74; refine (i_TimeOk_no x1 _ C1.out).mono ?_; rintro e w' ⟨rfl, rfl⟩))
        go_ret
        exact ⟨ret_bool HV.out, C.out⟩
    · have C0 := Lib.hid c0
      have HV := Lib.hid (show false = jobsOkB ⟨x0, x1, 0, x3, x4, l⟩ by simp [jobsOkB, schedB, inB] <;> omega)
      clear c0
      go_enter Try.func99, Try.ntmps99
      go_wp2_with (first
        | (go_at_call 100; refine (i_isState_no x0 _ C0.out).mono ?_; rintro e w' ⟨rfl, rfl⟩))
      go_ret
      exact ⟨ret_bool HV.out, C.out⟩
  · have e9 : (x2 == 0) = false := by simpa using q
    have d9 : decide (x2 = 0) = false := decide_eq_false q
    have HQ := Lib.hid q
    by_cases c0 : 0 ≤ x0 ∧ x0 ≤ 2000
    · have C0 := Lib.hid c0
      by_cases c1 : 0 ≤ x1 ∧ x1 ≤ 1000000
      · have C1 := Lib.hid c1
        by_cases c2 : 0 ≤ x3 ∧ x3 ≤ 1000
        · have C2 := Lib.hid c2
          by_cases c3 : 0 ≤ x4
          · have C3 := Lib.hid c3
            have g1 : decide (x4 < 0) = false := decide_eq_false (by omega)
            by_cases c4 : x4 ≤ 1001000
            · have C4 := Lib.hid c4
              have g2 : decide (x4 > 1001000) = false := decide_eq_false (by omega)
              have g3 : decide (1001000 < x4) = false := decide_eq_false (by omega)
              by_cases c5 : 2 ≤ x2 ∧ x2 ≤ 3
              · have C5 := Lib.hid c5
                have HV := Lib.hid (show openB l = jobsOkB ⟨x0, x1, x2, x3, x4, l⟩ by simp [jobsOkB, inB, q, c0.1, c0.2, c1.1, c1.2, c2.1, c2.2, c3, c4, (schedB_iff x2).2 c5])
                clear c0 c1 c2 c3 c4 c5
                go_enter Try.func99, Try.ntmps99
                go_wp2_with (first
                  | (go_at_call 100; refine (i_isState_yes x0 _ C0.out).mono ?_; rintro e w' ⟨rfl, rfl⟩)
                  | (go_at_call 74; refine (i_TimeOk_yes x1 _ C1.out).mono ?_; rintro e w' ⟨rfl, rfl⟩)
                  | (go_at_call 81; refine (i_isEpoch_yes x3 _ C2.out).mono ?_; rintro e w' ⟨rfl, rfl⟩)
                  | (go_at_call 101; refine (i_isSched_yes x2 _ C5.out).mono ?_; rintro e w' ⟨rfl, rfl⟩)
                  | (go_at_call 102; refine (iOpen_any A n cc B l _ HR.out (Nat.le_trans hB C.out.size) hs).mono ?_; rintro e w' ⟨rfl, b⟩))
                have CC := Lib.hid (C.out.trans (b.mono C.out.size))
                clear b
                go_ret
                exact ⟨ret_bool HV.out, CC.out⟩
              · have C5 := Lib.hid c5
                have HV := Lib.hid (show false = jobsOkB ⟨x0, x1, x2, x3, x4, l⟩ by simp [jobsOkB, schedB, inB, q] <;> omega)
                clear c0 c1 c2 c3 c4 c5
                go_enter Try.func99, Try.ntmps99
                go_wp2_with (first
                  | (go_at_call 100; refine (i_isState_yes x0 _ C0.out).mono ?_; rintro e w' ⟨rfl, rfl⟩)
                  | (go_at_call 74; refine (i_TimeOk_yes x1 _ C1.out).mono ?_; rintro e w' ⟨rfl, rfl⟩)
                  | (go_at_call 81; refine (i_isEpoch_yes x3 _ C2.out).mono ?_; rintro e w' ⟨rfl, rfl⟩)
                  | (go_at_call 101; refine (i_isSched_no x2 _ C5.out).mono ?_; rintro e w' ⟨rfl, rfl⟩))
                go_ret
                exact ⟨ret_bool HV.out, C.out⟩
            · have C4 := Lib.hid c4
              have g2 : decide (x4 > 1001000) = true := decide_eq_true (by omega)
              have g3 : decide (1001000 < x4) = true := decide_eq_true (by omega)
              have HV := Lib.hid (show false = jobsOkB ⟨x0, x1, x2, x3, x4, l⟩ by simp [jobsOkB, schedB, inB, q] <;> omega)
              clear c0 c1 c2 c3 c4
              go_enter Try.func99, Try.ntmps99
              go_wp2_with (first
                | (go_at_call 100; refine (i_isState_yes x0 _ C0.out).mono ?_; rintro e w' ⟨rfl, rfl⟩)
                | (go_at_call 74; refine (i_TimeOk_yes x1 _ C1.out).mono ?_; rintro e w' ⟨rfl, rfl⟩)
                | (go_at_call 81; refine (i_isEpoch_yes x3 _ C2.out).mono ?_; rintro e w' ⟨rfl, rfl⟩))
              go_ret
              exact ⟨ret_bool HV.out, C.out⟩
          · have C3 := Lib.hid c3
            have g1 : decide (x4 < 0) = true := decide_eq_true (by omega)
            have HV := Lib.hid (show false = jobsOkB ⟨x0, x1, x2, x3, x4, l⟩ by simp [jobsOkB, schedB, inB, q] <;> omega)
            clear c0 c1 c2 c3
            go_enter Try.func99, Try.ntmps99
            go_wp2_with (first
              | (go_at_call 100; refine (i_isState_yes x0 _ C0.out).mono ?_; rintro e w' ⟨rfl, rfl⟩)
              | (go_at_call 74; refine (i_TimeOk_yes x1 _ C1.out).mono ?_; rintro e w' ⟨rfl, rfl⟩)
              | (go_at_call 81; refine (i_isEpoch_yes x3 _ C2.out).mono ?_; rintro e w' ⟨rfl, rfl⟩))
            go_ret
            exact ⟨ret_bool HV.out, C.out⟩
        · have C2 := Lib.hid c2
          have HV := Lib.hid (show false = jobsOkB ⟨x0, x1, x2, x3, x4, l⟩ by simp [jobsOkB, schedB, inB, q] <;> omega)
          clear c0 c1 c2
          go_enter Try.func99, Try.ntmps99
          go_wp2_with (first
            | (go_at_call 100; refine (i_isState_yes x0 _ C0.out).mono ?_; rintro e w' ⟨rfl, rfl⟩)
            | (go_at_call 74; refine (i_TimeOk_yes x1 _ C1.out).mono ?_; rintro e w' ⟨rfl, rfl⟩)
            | (go_at_call 81; refine (i_isEpoch_no x3 _ C2.out).mono ?_; rintro e w' ⟨rfl, rfl⟩))
          go_ret
          exact ⟨ret_bool HV.out, C.out⟩
      · have C1 := Lib.hid c1
        have HV := Lib.hid (show false = jobsOkB ⟨x0, x1, x2, x3, x4, l⟩ by simp [jobsOkB, schedB, inB, q] <;> omega)
        clear c0 c1
        go_enter Try.func99, Try.ntmps99
        go_wp2_with (first
          | (go_at_call 100; refine (i_isState_yes x0 _ C0.out).mono ?_; rintro e w' ⟨rfl, rfl⟩)
          | (go_at_call 74; refine (i_TimeOk_no x1 _ C1.out).mono ?_; rintro e w' ⟨rfl, rfl⟩))
        go_ret
        exact ⟨ret_bool HV.out, C.out⟩
    · have C0 := Lib.hid c0
      have HV := Lib.hid (show false = jobsOkB ⟨x0, x1, x2, x3, x4, l⟩ by simp [jobsOkB, schedB, inB, q] <;> omega)
      clear c0
      go_enter Try.func99, Try.ntmps99
      go_wp2_with (first
        | (go_at_call 100; refine (i_isState_no x0 _ C0.out).mono ?_; rintro e w' ⟨rfl, rfl⟩))
      go_ret
      exact ⟨ret_bool HV.out, C.out⟩

end Go.Proofs.Ytepnghjmpbfmcaa
