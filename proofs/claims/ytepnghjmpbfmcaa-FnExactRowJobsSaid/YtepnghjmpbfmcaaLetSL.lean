/-
  Chapter 11: lists of jobs decoded, of the model (by program, wip/gen/genletsh.py).
-/
import Derived.Test.YtepnghjmpbfmcaaLetSJ
import Derived.Test.YtepnghjmpbfmcaaEntL
import Derived.Test.YtepnghjmpbfmcaaMove
import Derived.Test.YtepnghjmpbfmcaaKA
import Derived.RegionTactic
import Derived.BigQuiet
import Derived.Laws.EntriesVeiled
namespace Go.Proofs.Ytepnghjmpbfmcaa
set_option maxRecDepth 100000
open Go.RowKit

set_option linter.unusedVariables false
set_option linter.unusedSimpArgs false
theorem getD_dropS (d : List Int) (a i : Nat) : (d.drop a).getD i 0 = d.getD (a + i) 0 := by simp [List.getD, List.getElem?_drop]
theorem ow_nil_djsS (w : World) : Ow w [djD []] [.slice none 0 0] [] := Ow.row (n := 0) (us := []) (fp1 := []) (fp2 := []) (World.ownsRow_nil w 0 _ _) .nil .nil
theorem has_nil_djsS (w : World) (base : Nat) : Has w base [djD []] [.slice none 0 0] := ⟨[], ow_nil_djsS w, List.nodup_nil, fun p hp => by cases hp⟩
set_option maxHeartbeats 12800000 in
theorem sRowJobs_at (A : Option Addr) (n c : Nat) (d0 : List Int) (w : World) (h : Rd w w.heap.size (rowCells d0) [.slice A n c]) (hs : d0.length ≤ 1048576) :
    Calls Try.prog 7 #[.slice A n c] w fun e w' => ∃ (y0 y1 y2 y3 y4 : Int) (A2 : Option Addr) (n2 c2 : Nat), e = .returned (.tuple #[.agg #[.int .i64 y0, .int .i64 y1, .int .i64 y2, .int .i64 y3, .int .i64 y4, .slice A2 n2 c2], .bool (rowJobsM d0).2]) ∧ Has w' w.heap.size ((rowJobsM d0).1.cells) [.int .i64 y0, .int .i64 y1, .int .i64 y2, .int .i64 y3, .int .i64 y4, .slice A2 n2 c2] ∧ Below w.heap.size w w' := by
  obtain ⟨_, _, _, e, hi, hnc, hcm⟩ := h.irow
  injection e with e1 e2 e3
  subst e1 e2 e3
  have hn : n ≤ 1048577 := by have := hi.1; omega
  have HI := Lib.hid hi
  have HL := Lib.hid hi.1
  obtain ⟨cc, hcc⟩ : ∃ q, q = c := ⟨_, rfl⟩
  rw [← hcc] at hnc hcm ⊢
  have HCM := Lib.hid hcm
  unfold maxLen at hcm
  clear h hs hcc c
  obtain ⟨y0, hy0⟩ : ∃ x, x = d0.getD 0 0 := ⟨_, rfl⟩
  have HY := Lib.hid hy0
  by_cases c0 : 6 ≤ n
  case neg =>
    have ga1 : decide ((n : Int) < 6) = true := decide_eq_true (by omega)
    have ga2 : decide (n < 6) = true := decide_eq_true (by omega)
    have HD := Lib.hid (show rowJobsM d0 = (jobs0, false) by unfold rowJobsM; rw [if_neg (fun h9 => c0 (by have := HL.out; omega))])
    clear hi hy0 c0
    have S := Sep.nil w w.heap.size
    have c := Below.refl w.heap.size w
    replace S := S.boxAt c.size (w.heap.size) rfl #[.int .i64 0, .int .i64 0, .int .i64 0, .int .i64 0, .int .i64 0, .slice none 0 0] 25
    replace c := c.alloc c.size (.cells #[.int .i64 0, .int .i64 0, .int .i64 0, .int .i64 0, .int .i64 0, .slice none 0 0] 25)
    go_enter Try.func7, Try.ntmps7
    have r0 := Lib.hid (show (w.alloc (.cells #[.int .i64 0, .int .i64 0, .int .i64 0, .int .i64 0, .int .i64 0, .slice none 0 0] 25)).cell? ⟨w.heap.size, 0, none⟩ = some (.int .i64 0) from (S.at_ 0 rfl).cell 0)
    have r1 := Lib.hid (show (w.alloc (.cells #[.int .i64 0, .int .i64 0, .int .i64 0, .int .i64 0, .int .i64 0, .slice none 0 0] 25)).cell? ⟨w.heap.size, 1, none⟩ = some (.int .i64 0) from (S.at_ 0 rfl).cell 1)
    have r2 := Lib.hid (show (w.alloc (.cells #[.int .i64 0, .int .i64 0, .int .i64 0, .int .i64 0, .int .i64 0, .slice none 0 0] 25)).cell? ⟨w.heap.size, 2, none⟩ = some (.int .i64 0) from (S.at_ 0 rfl).cell 2)
    have r3 := Lib.hid (show (w.alloc (.cells #[.int .i64 0, .int .i64 0, .int .i64 0, .int .i64 0, .int .i64 0, .slice none 0 0] 25)).cell? ⟨w.heap.size, 3, none⟩ = some (.int .i64 0) from (S.at_ 0 rfl).cell 3)
    have r4 := Lib.hid (show (w.alloc (.cells #[.int .i64 0, .int .i64 0, .int .i64 0, .int .i64 0, .int .i64 0, .slice none 0 0] 25)).cell? ⟨w.heap.size, 4, none⟩ = some (.int .i64 0) from (S.at_ 0 rfl).cell 4)
    have r5 := Lib.hid (show (w.alloc (.cells #[.int .i64 0, .int .i64 0, .int .i64 0, .int .i64 0, .int .i64 0, .slice none 0 0] 25)).cell? ⟨w.heap.size, 5, none⟩ = some (.slice none 0 0) from (S.at_ 0 rfl).cell 5)
    have CC := Lib.hid c
    clear S c
    go_wp2
    exact bodyPost_ret (v := .tuple #[.agg #[.int .i64 0, .int .i64 0, .int .i64 0, .int .i64 0, .int .i64 0, .slice none 0 0], .bool false]) (by simp [results, Try.results7, go_sem, r0.out, r1.out, r2.out, r3.out, r4.out, r5.out]) rfl ⟨0, 0, 0, 0, 0, none, 0, 0, by rw [HD.out] <;> rfl, by rw [HD.out]; exact Has.int (Has.int (Has.int (Has.int (Has.int (has_nil_djsS _ _))))), CC.out⟩
  case pos =>
    have ga1 : decide ((n : Int) < 6) = false := decide_eq_false (by omega)
    have ga2 : decide (n < 6) = false := decide_eq_false (by omega)
    by_cases c1 : n ≤ 22
    case neg =>
      have gb1 : decide ((n : Int) > 22) = true := decide_eq_true (by omega)
      have gb2 : decide (22 < (n : Int)) = true := decide_eq_true (by omega)
      have gb3 : decide (22 < n) = true := decide_eq_true (by omega)
      have HD := Lib.hid (show rowJobsM d0 = (jobs0, false) by unfold rowJobsM; rw [if_neg (fun h9 => c1 (by have := HL.out; omega))])
      clear hi hy0 c1
      have S := Sep.nil w w.heap.size
      have c := Below.refl w.heap.size w
      replace S := S.boxAt c.size (w.heap.size) rfl #[.int .i64 0, .int .i64 0, .int .i64 0, .int .i64 0, .int .i64 0, .slice none 0 0] 25
      replace c := c.alloc c.size (.cells #[.int .i64 0, .int .i64 0, .int .i64 0, .int .i64 0, .int .i64 0, .slice none 0 0] 25)
      go_enter Try.func7, Try.ntmps7
      have r0 := Lib.hid (show (w.alloc (.cells #[.int .i64 0, .int .i64 0, .int .i64 0, .int .i64 0, .int .i64 0, .slice none 0 0] 25)).cell? ⟨w.heap.size, 0, none⟩ = some (.int .i64 0) from (S.at_ 0 rfl).cell 0)
      have r1 := Lib.hid (show (w.alloc (.cells #[.int .i64 0, .int .i64 0, .int .i64 0, .int .i64 0, .int .i64 0, .slice none 0 0] 25)).cell? ⟨w.heap.size, 1, none⟩ = some (.int .i64 0) from (S.at_ 0 rfl).cell 1)
      have r2 := Lib.hid (show (w.alloc (.cells #[.int .i64 0, .int .i64 0, .int .i64 0, .int .i64 0, .int .i64 0, .slice none 0 0] 25)).cell? ⟨w.heap.size, 2, none⟩ = some (.int .i64 0) from (S.at_ 0 rfl).cell 2)
      have r3 := Lib.hid (show (w.alloc (.cells #[.int .i64 0, .int .i64 0, .int .i64 0, .int .i64 0, .int .i64 0, .slice none 0 0] 25)).cell? ⟨w.heap.size, 3, none⟩ = some (.int .i64 0) from (S.at_ 0 rfl).cell 3)
      have r4 := Lib.hid (show (w.alloc (.cells #[.int .i64 0, .int .i64 0, .int .i64 0, .int .i64 0, .int .i64 0, .slice none 0 0] 25)).cell? ⟨w.heap.size, 4, none⟩ = some (.int .i64 0) from (S.at_ 0 rfl).cell 4)
      have r5 := Lib.hid (show (w.alloc (.cells #[.int .i64 0, .int .i64 0, .int .i64 0, .int .i64 0, .int .i64 0, .slice none 0 0] 25)).cell? ⟨w.heap.size, 5, none⟩ = some (.slice none 0 0) from (S.at_ 0 rfl).cell 5)
      have CC := Lib.hid c
      clear S c
      go_wp2
      exact bodyPost_ret (v := .tuple #[.agg #[.int .i64 0, .int .i64 0, .int .i64 0, .int .i64 0, .int .i64 0, .slice none 0 0], .bool false]) (by simp [results, Try.results7, go_sem, r0.out, r1.out, r2.out, r3.out, r4.out, r5.out]) rfl ⟨0, 0, 0, 0, 0, none, 0, 0, by rw [HD.out] <;> rfl, by rw [HD.out]; exact Has.int (Has.int (Has.int (Has.int (Has.int (has_nil_djsS _ _))))), CC.out⟩
    case pos =>
      have gb1 : decide ((n : Int) > 22) = false := decide_eq_false (by omega)
      have gb2 : decide (22 < (n : Int)) = false := decide_eq_false (by omega)
      have gb3 : decide (22 < n) = false := decide_eq_false (by omega)
      by_cases c2 : n % 2 = 0
      case neg =>
        have gc1 : ((n : Int) % 2 != 0) = true := by simp; omega
        have gc2 : ((n : Int) % 2 == 0) = false := by simp; omega
        have gc3 : (n % 2 != 0) = true := by simp; omega
        have gc4 : (n % 2 == 0) = false := by simp; omega
        have gc5 : decide (n % 2 = 0) = false := decide_eq_false (by omega)
        have gc6 : decide ((n : Int) % 2 = 0) = false := decide_eq_false (by omega)
        have HD := Lib.hid (show rowJobsM d0 = (jobs0, false) by unfold rowJobsM; rw [if_neg (fun h9 => c2 (by have := HL.out; omega))])
        clear hi hy0 c2
        have S := Sep.nil w w.heap.size
        have c := Below.refl w.heap.size w
        replace S := S.boxAt c.size (w.heap.size) rfl #[.int .i64 0, .int .i64 0, .int .i64 0, .int .i64 0, .int .i64 0, .slice none 0 0] 25
        replace c := c.alloc c.size (.cells #[.int .i64 0, .int .i64 0, .int .i64 0, .int .i64 0, .int .i64 0, .slice none 0 0] 25)
        go_enter Try.func7, Try.ntmps7
        have r0 := Lib.hid (show (w.alloc (.cells #[.int .i64 0, .int .i64 0, .int .i64 0, .int .i64 0, .int .i64 0, .slice none 0 0] 25)).cell? ⟨w.heap.size, 0, none⟩ = some (.int .i64 0) from (S.at_ 0 rfl).cell 0)
        have r1 := Lib.hid (show (w.alloc (.cells #[.int .i64 0, .int .i64 0, .int .i64 0, .int .i64 0, .int .i64 0, .slice none 0 0] 25)).cell? ⟨w.heap.size, 1, none⟩ = some (.int .i64 0) from (S.at_ 0 rfl).cell 1)
        have r2 := Lib.hid (show (w.alloc (.cells #[.int .i64 0, .int .i64 0, .int .i64 0, .int .i64 0, .int .i64 0, .slice none 0 0] 25)).cell? ⟨w.heap.size, 2, none⟩ = some (.int .i64 0) from (S.at_ 0 rfl).cell 2)
        have r3 := Lib.hid (show (w.alloc (.cells #[.int .i64 0, .int .i64 0, .int .i64 0, .int .i64 0, .int .i64 0, .slice none 0 0] 25)).cell? ⟨w.heap.size, 3, none⟩ = some (.int .i64 0) from (S.at_ 0 rfl).cell 3)
        have r4 := Lib.hid (show (w.alloc (.cells #[.int .i64 0, .int .i64 0, .int .i64 0, .int .i64 0, .int .i64 0, .slice none 0 0] 25)).cell? ⟨w.heap.size, 4, none⟩ = some (.int .i64 0) from (S.at_ 0 rfl).cell 4)
        have r5 := Lib.hid (show (w.alloc (.cells #[.int .i64 0, .int .i64 0, .int .i64 0, .int .i64 0, .int .i64 0, .slice none 0 0] 25)).cell? ⟨w.heap.size, 5, none⟩ = some (.slice none 0 0) from (S.at_ 0 rfl).cell 5)
        have CC := Lib.hid c
        clear S c
        go_wp2
        exact bodyPost_ret (v := .tuple #[.agg #[.int .i64 0, .int .i64 0, .int .i64 0, .int .i64 0, .int .i64 0, .slice none 0 0], .bool false]) (by simp [results, Try.results7, go_sem, r0.out, r1.out, r2.out, r3.out, r4.out, r5.out]) rfl ⟨0, 0, 0, 0, 0, none, 0, 0, by rw [HD.out] <;> rfl, by rw [HD.out]; exact Has.int (Has.int (Has.int (Has.int (Has.int (has_nil_djsS _ _))))), CC.out⟩
      case pos =>
        have gc1 : ((n : Int) % 2 != 0) = false := by simp; omega
        have gc2 : ((n : Int) % 2 == 0) = true := by simp; omega
        have gc3 : (n % 2 != 0) = false := by simp; omega
        have gc4 : (n % 2 == 0) = true := by simp; omega
        have gc5 : decide (n % 2 = 0) = true := decide_eq_true (by omega)
        have gc6 : decide ((n : Int) % 2 = 0) = true := decide_eq_true (by omega)
        by_cases c3 : y0 = 9
        case neg =>
          have gd1 : (y0 != 9) = true := by simp; omega
          have gd2 : (y0 == 9) = false := by simp; omega
          have gd3 : decide (y0 = 9) = false := decide_eq_false (by omega)
          have HD := Lib.hid (show rowJobsM d0 = (jobs0, false) by unfold rowJobsM; rw [if_neg (fun h9 => c3 (by have := HL.out; rw [HY.out]; exact h9.2.2.2.1))])
          obtain ⟨b, off, rfl, hb, hc⟩ := hi.2 (by omega)
          have k0 := hc 0 (by omega)
          rw [← hy0, Nat.add_zero] at k0
          have hq0 : (0 : Int) < (n : Int) := by omega
          have hq1 : 0 < n := by omega
          clear hc
          clear hi hy0 c3
          have S := Sep.nil w w.heap.size
          have c := Below.refl w.heap.size w
          replace S := S.boxAt c.size (w.heap.size) rfl #[.int .i64 0, .int .i64 0, .int .i64 0, .int .i64 0, .int .i64 0, .slice none 0 0] 25
          replace c := c.alloc c.size (.cells #[.int .i64 0, .int .i64 0, .int .i64 0, .int .i64 0, .int .i64 0, .slice none 0 0] 25)
          go_enter Try.func7, Try.ntmps7
          have k0' := (c.cell (p := ⟨b, off, none⟩) (show b < _ by omega)).trans k0
          have r0 := Lib.hid (show (w.alloc (.cells #[.int .i64 0, .int .i64 0, .int .i64 0, .int .i64 0, .int .i64 0, .slice none 0 0] 25)).cell? ⟨w.heap.size, 0, none⟩ = some (.int .i64 0) from (S.at_ 0 rfl).cell 0)
          have r1 := Lib.hid (show (w.alloc (.cells #[.int .i64 0, .int .i64 0, .int .i64 0, .int .i64 0, .int .i64 0, .slice none 0 0] 25)).cell? ⟨w.heap.size, 1, none⟩ = some (.int .i64 0) from (S.at_ 0 rfl).cell 1)
          have r2 := Lib.hid (show (w.alloc (.cells #[.int .i64 0, .int .i64 0, .int .i64 0, .int .i64 0, .int .i64 0, .slice none 0 0] 25)).cell? ⟨w.heap.size, 2, none⟩ = some (.int .i64 0) from (S.at_ 0 rfl).cell 2)
          have r3 := Lib.hid (show (w.alloc (.cells #[.int .i64 0, .int .i64 0, .int .i64 0, .int .i64 0, .int .i64 0, .slice none 0 0] 25)).cell? ⟨w.heap.size, 3, none⟩ = some (.int .i64 0) from (S.at_ 0 rfl).cell 3)
          have r4 := Lib.hid (show (w.alloc (.cells #[.int .i64 0, .int .i64 0, .int .i64 0, .int .i64 0, .int .i64 0, .slice none 0 0] 25)).cell? ⟨w.heap.size, 4, none⟩ = some (.int .i64 0) from (S.at_ 0 rfl).cell 4)
          have r5 := Lib.hid (show (w.alloc (.cells #[.int .i64 0, .int .i64 0, .int .i64 0, .int .i64 0, .int .i64 0, .slice none 0 0] 25)).cell? ⟨w.heap.size, 5, none⟩ = some (.slice none 0 0) from (S.at_ 0 rfl).cell 5)
          have CC := Lib.hid c
          clear S c
          go_wp2
          exact bodyPost_ret (v := .tuple #[.agg #[.int .i64 0, .int .i64 0, .int .i64 0, .int .i64 0, .int .i64 0, .slice none 0 0], .bool false]) (by simp [results, Try.results7, go_sem, r0.out, r1.out, r2.out, r3.out, r4.out, r5.out]) rfl ⟨0, 0, 0, 0, 0, none, 0, 0, by rw [HD.out] <;> rfl, by rw [HD.out]; exact Has.int (Has.int (Has.int (Has.int (Has.int (has_nil_djsS _ _))))), CC.out⟩
        case pos =>
          have gd1 : (y0 != 9) = false := by simp; omega
          have gd2 : (y0 == 9) = true := by simp; omega
          have gd3 : decide (y0 = 9) = true := decide_eq_true (by omega)
          obtain ⟨b, off, rfl, hb, hc⟩ := hi.2 (by omega)
          have k0 := hc 0 (by omega)
          rw [← hy0, Nat.add_zero] at k0
          have HY0 := Lib.hid c3
          have hq0 : (0 : Int) < (n : Int) := by omega
          have hq0n : 0 < n := by omega
          obtain ⟨x0, hx0⟩ : ∃ x, x = d0.getD 1 0 := ⟨_, rfl⟩
          have k1 := hc 1 (by omega)
          rw [← hx0] at k1
          have hq1 : (1 : Int) < (n : Int) := by omega
          have hq1n : 1 < n := by omega
          obtain ⟨x1, hx1⟩ : ∃ x, x = d0.getD 2 0 := ⟨_, rfl⟩
          have k2 := hc 2 (by omega)
          rw [← hx1] at k2
          have hq2 : (2 : Int) < (n : Int) := by omega
          have hq2n : 2 < n := by omega
          obtain ⟨x2, hx2⟩ : ∃ x, x = d0.getD 3 0 := ⟨_, rfl⟩
          have k3 := hc 3 (by omega)
          rw [← hx2] at k3
          have hq3 : (3 : Int) < (n : Int) := by omega
          have hq3n : 3 < n := by omega
          obtain ⟨x3, hx3⟩ : ∃ x, x = d0.getD 4 0 := ⟨_, rfl⟩
          have k4 := hc 4 (by omega)
          rw [← hx3] at k4
          have hq4 : (4 : Int) < (n : Int) := by omega
          have hq4n : 4 < n := by omega
          obtain ⟨x4, hx4⟩ : ∃ x, x = d0.getD 5 0 := ⟨_, rfl⟩
          have k5 := hc 5 (by omega)
          rw [← hx4] at k5
          have hq5 : (5 : Int) < (n : Int) := by omega
          have hq5n : 5 < n := by omega
          have HC := Lib.hid hc
          obtain ⟨k, hk⟩ : ∃ k, n = 6 + 2 * k := ⟨(n - 6) / 2, by omega⟩
          have hk9 : k ≤ 8 := by omega
          have HK := Lib.hid hk
          have HOF := Lib.hid (show ofJobs d0 = ⟨x0, x1, x2, x3, x4, duesFrom (d0.drop 6) k⟩ by
            unfold ofJobs
            rw [← hx0, ← hx1, ← hx2, ← hx3, ← hx4]
            have e9 : (d0.length - 6) / 2 = k := by have := HL.out; omega
            rw [e9])
          have HCOND := Lib.hid (show 6 ≤ d0.length ∧ d0.length ≤ 22 ∧ d0.length % 2 = 0 ∧ d0.getD 0 0 = 9 from ⟨by have := HL.out; omega, by have := HL.out; omega, by have := HL.out; omega, by rw [← HY.out]; exact c3⟩)
          have HNO := Lib.hid (fun hno : jobsOkB (ofJobs d0) = false => show rowJobsM d0 = (jobs0, false) by unfold rowJobsM; rw [if_neg (fun h9 => by have h8 := h9.2.2.2.2; rw [hno] at h8; cases h8)])
          have hnb := c1
          have hcc3 : 6 ≤ cc := by omega
          clear hc hi hk hy0 c0 c1 c2 c3 hx0 hx1 hx2 hx3 hx4
          have S := Sep.nil w w.heap.size
          have c := Below.refl w.heap.size w
          replace S := S.boxAt c.size (w.heap.size) rfl #[.int .i64 0, .int .i64 0, .int .i64 0, .int .i64 0, .int .i64 0, .slice none 0 0] 25
          replace c := c.alloc c.size (.cells #[.int .i64 0, .int .i64 0, .int .i64 0, .int .i64 0, .int .i64 0, .slice none 0 0] 25)
          go_enter Try.func7, Try.ntmps7
          have k0' := (c.cell (p := ⟨b, off, none⟩) (show b < _ by omega)).trans k0
          go_wp2_with fail
          generalize w.alloc (.cells #[.int .i64 0, .int .i64 0, .int .i64 0, .int .i64 0, .int .i64 0, .slice none 0 0] 25) = w1 at *
          clear k0'
          refine wp_region_L (fun v => v.cell? ⟨b, off + 1, none⟩ = some (.int .i64 x0) ∧ v.cell? ⟨b, off + 2, none⟩ = some (.int .i64 x1) ∧ v.cell? ⟨b, off + 3, none⟩ = some (.int .i64 x2) ∧ v.cell? ⟨b, off + 4, none⟩ = some (.int .i64 x3) ∧ v.cell? ⟨b, off + 5, none⟩ = some (.int .i64 x4)) 17 (by kernel_rfl) ?_
          replace S := S.keep ((Below.refl _ _).drew)
          replace c := c.drew
          generalize w1.drew = w2 at *
          have HF : w2.cell? ⟨b, off + 1, none⟩ = some (.int .i64 x0) ∧ w2.cell? ⟨b, off + 2, none⟩ = some (.int .i64 x1) ∧ w2.cell? ⟨b, off + 3, none⟩ = some (.int .i64 x2) ∧ w2.cell? ⟨b, off + 4, none⟩ = some (.int .i64 x3) ∧ w2.cell? ⟨b, off + 5, none⟩ = some (.int .i64 x4) := ⟨(c.cell (p := ⟨b, off + 1, none⟩) (show b < _ by omega)).trans k1, (c.cell (p := ⟨b, off + 2, none⟩) (show b < _ by omega)).trans k2, (c.cell (p := ⟨b, off + 3, none⟩) (show b < _ by omega)).trans k3, (c.cell (p := ⟨b, off + 4, none⟩) (show b < _ by omega)).trans k4, (c.cell (p := ⟨b, off + 5, none⟩) (show b < _ by omega)).trans k5⟩
          refine wpAnyL_take (i := 0) (v := ?_) rfl rfl (by kernel_rfl) (by kernel_rfl) (by kernel_rfl) (by kernel_rfl) (by kernel_rfl) (fun _ _ _ h => h) HF (Or.inl ⟨by rfl, ?_⟩) ?_
          rotate_left 1
          · (rintro v ⟨a0, a1, a2, a3, a4⟩; go_simp; try with_reducible rfl)
          try simp only [Act.put]
          refine wpAnyL_take (i := 1) (v := ?_) rfl rfl (by kernel_rfl) (by kernel_rfl) (by kernel_rfl) (by kernel_rfl) (by kernel_rfl) (fun _ _ _ h => h) HF (Or.inl ⟨by rfl, ?_⟩) ?_
          rotate_left 1
          · (rintro v ⟨a0, a1, a2, a3, a4⟩; go_simp; try with_reducible rfl)
          try simp only [Act.put]
          refine wpAnyL_take (i := 2) (v := ?_) rfl rfl (by kernel_rfl) (by kernel_rfl) (by kernel_rfl) (by kernel_rfl) (by kernel_rfl) (fun _ _ _ h => h) HF (Or.inl ⟨by rfl, ?_⟩) ?_
          rotate_left 1
          · (rintro v ⟨a0, a1, a2, a3, a4⟩; go_simp; try with_reducible rfl)
          try simp only [Act.put]
          refine wpAnyL_take (i := 3) (v := ?_) rfl rfl (by kernel_rfl) (by kernel_rfl) (by kernel_rfl) (by kernel_rfl) (by kernel_rfl) (fun _ _ _ h => h) HF (Or.inl ⟨by rfl, ?_⟩) ?_
          rotate_left 1
          · (rintro v ⟨a0, a1, a2, a3, a4⟩; go_simp; try with_reducible rfl)
          try simp only [Act.put]
          refine wpAnyL_take (i := 4) (v := ?_) rfl rfl (by kernel_rfl) (by kernel_rfl) (by kernel_rfl) (by kernel_rfl) (by kernel_rfl) (fun _ _ _ h => h) HF (Or.inl ⟨by rfl, ?_⟩) ?_
          rotate_left 1
          · (rintro v ⟨a0, a1, a2, a3, a4⟩; go_simp; try with_reducible rfl)
          try simp only [Act.put]
          refine wpAnyL_take (i := 5) (v := ?_) rfl rfl (by kernel_rfl) (by kernel_rfl) (by kernel_rfl) (by kernel_rfl) (by kernel_rfl) (fun _ _ _ h => h) HF (Or.inl ⟨by rfl, ?_⟩) ?_
          rotate_left 1
          · (rintro v ⟨a0, a1, a2, a3, a4⟩; go_simp; try with_reducible rfl)
          try simp only [Act.put]
          refine wpAnyL_take (i := 6) (v := ?_) rfl rfl (by kernel_rfl) (by kernel_rfl) (by kernel_rfl) (by kernel_rfl) (by kernel_rfl) (fun _ _ _ h => h) HF (Or.inl ⟨by rfl, ?_⟩) ?_
          rotate_left 1
          · (rintro v ⟨a0, a1, a2, a3, a4⟩; go_simp; try with_reducible rfl)
          try simp only [Act.put]
          refine wpAnyL_take (i := 7) (v := ?_) rfl rfl (by kernel_rfl) (by kernel_rfl) (by kernel_rfl) (by kernel_rfl) (by kernel_rfl) (fun _ _ _ h => h) HF (Or.inl ⟨by rfl, ?_⟩) ?_
          rotate_left 1
          · (rintro v ⟨a0, a1, a2, a3, a4⟩; go_simp; try with_reducible rfl)
          try simp only [Act.put]
          refine wpAnyL_take (i := 8) (v := ?_) rfl rfl (by kernel_rfl) (by kernel_rfl) (by kernel_rfl) (by kernel_rfl) (by kernel_rfl) (fun _ _ _ h => h) HF (Or.inl ⟨by rfl, ?_⟩) ?_
          rotate_left 1
          · (rintro v ⟨a0, a1, a2, a3, a4⟩; go_simp; try with_reducible rfl)
          try simp only [Act.put]
          refine wpAnyL_take (i := 9) (v := ?_) rfl rfl (by kernel_rfl) (by kernel_rfl) (by kernel_rfl) (by kernel_rfl) (by kernel_rfl) (fun _ _ _ h => h) HF (Or.inl ⟨by rfl, ?_⟩) ?_
          rotate_left 1
          · (rintro v ⟨a0, a1, a2, a3, a4⟩; go_simp; try with_reducible rfl)
          try simp only [Act.put]
          refine wpAnyL_take (i := 10) (v := ?_) rfl rfl (by kernel_rfl) (by kernel_rfl) (by kernel_rfl) (by kernel_rfl) (by kernel_rfl) (fun _ _ _ h => h) HF (Or.inl ⟨by rfl, ?_⟩) ?_
          rotate_left 1
          · (rintro v ⟨a0, a1, a2, a3, a4⟩; go_simp; try with_reducible rfl)
          try simp only [Act.put]
          refine wpAnyL_take (i := 11) (v := ?_) rfl rfl (by kernel_rfl) (by kernel_rfl) (by kernel_rfl) (by kernel_rfl) (by kernel_rfl) (fun _ _ _ h => h) HF (Or.inl ⟨by rfl, ?_⟩) ?_
          rotate_left 1
          · (rintro v ⟨a0, a1, a2, a3, a4⟩; go_simp; try with_reducible rfl)
          try simp only [Act.put]
          refine wpAnyL_take (i := 12) (v := ?_) rfl rfl (by kernel_rfl) (by kernel_rfl) (by kernel_rfl) (by kernel_rfl) (by kernel_rfl) (fun _ _ _ h => h) HF (Or.inl ⟨by rfl, ?_⟩) ?_
          rotate_left 1
          · (rintro v ⟨a0, a1, a2, a3, a4⟩; go_simp; try with_reducible rfl)
          try simp only [Act.put]
          refine wpAnyL_take (i := 13) (v := ?_) rfl rfl (by kernel_rfl) (by kernel_rfl) (by kernel_rfl) (by kernel_rfl) (by kernel_rfl) (fun _ _ _ h => h) HF (Or.inl ⟨by rfl, ?_⟩) ?_
          rotate_left 1
          · (rintro v ⟨a0, a1, a2, a3, a4⟩; go_simp; try with_reducible rfl)
          try simp only [Act.put]
          refine wpAnyL_take (i := 14) (v := ?_) rfl rfl (by kernel_rfl) (by kernel_rfl) (by kernel_rfl) (by kernel_rfl) (by kernel_rfl) (fun _ _ _ h => h) HF (Or.inl ⟨by rfl, ?_⟩) ?_
          rotate_left 1
          · (rintro v ⟨a0, a1, a2, a3, a4⟩; go_simp; try with_reducible rfl)
          try simp only [Act.put]
          refine wpAnyL_take (i := 15) (v := ?_) rfl rfl (by kernel_rfl) (by kernel_rfl) (by kernel_rfl) (by kernel_rfl) (by kernel_rfl) (fun _ _ _ h => h) HF (Or.inl ⟨by rfl, ?_⟩) ?_
          rotate_left 1
          · (rintro v ⟨a0, a1, a2, a3, a4⟩; go_simp; try with_reducible rfl)
          try simp only [Act.put]
          refine wpAnyL_step (i := 16) (by kernel_rfl) rfl rfl ?_
          intro K hK
          go_simp
          replace S := S.boxAt c.size (w2.heap.size) rfl #[.int .i64 0, .int .i64 0, .int .i64 0, .int .i64 0, .int .i64 0, .slice none 0 0] 25
          replace c := c.alloc c.size (.cells #[.int .i64 0, .int .i64 0, .int .i64 0, .int .i64 0, .int .i64 0, .slice none 0 0] 25)
          clear HF
          have HF : (w2.alloc (.cells #[.int .i64 0, .int .i64 0, .int .i64 0, .int .i64 0, .int .i64 0, .slice none 0 0] 25)).cell? ⟨b, off + 1, none⟩ = some (.int .i64 x0) ∧ (w2.alloc (.cells #[.int .i64 0, .int .i64 0, .int .i64 0, .int .i64 0, .int .i64 0, .slice none 0 0] 25)).cell? ⟨b, off + 2, none⟩ = some (.int .i64 x1) ∧ (w2.alloc (.cells #[.int .i64 0, .int .i64 0, .int .i64 0, .int .i64 0, .int .i64 0, .slice none 0 0] 25)).cell? ⟨b, off + 3, none⟩ = some (.int .i64 x2) ∧ (w2.alloc (.cells #[.int .i64 0, .int .i64 0, .int .i64 0, .int .i64 0, .int .i64 0, .slice none 0 0] 25)).cell? ⟨b, off + 4, none⟩ = some (.int .i64 x3) ∧ (w2.alloc (.cells #[.int .i64 0, .int .i64 0, .int .i64 0, .int .i64 0, .int .i64 0, .slice none 0 0] 25)).cell? ⟨b, off + 5, none⟩ = some (.int .i64 x4) := ⟨(c.cell (p := ⟨b, off + 1, none⟩) (show b < _ by omega)).trans k1, (c.cell (p := ⟨b, off + 2, none⟩) (show b < _ by omega)).trans k2, (c.cell (p := ⟨b, off + 3, none⟩) (show b < _ by omega)).trans k3, (c.cell (p := ⟨b, off + 4, none⟩) (show b < _ by omega)).trans k4, (c.cell (p := ⟨b, off + 5, none⟩) (show b < _ by omega)).trans k5⟩
          refine hK _ _ (fun _ => HF) ?_
          clear hK K
          try simp only [Act.put]
          generalize hw : w2.alloc (.cells #[.int .i64 0, .int .i64 0, .int .i64 0, .int .i64 0, .int .i64 0, .slice none 0 0] 25) = w3 at *
          clear hw
          obtain ⟨qf, hqf⟩ : ∃ q, q = w2.heap.size := ⟨_, rfl⟩
          rw [← hqf] at S ⊢
          clear hqf
          have f0 : w3.cell? ⟨qf, 0, none⟩ = some (.int .i64 0) := (S.at_ 0 rfl).cell 0
          have f1 := (S.at_ 0 rfl).free 0
          have f2 : w3.cell? ⟨qf, 1, none⟩ = some (.int .i64 0) := (S.at_ 0 rfl).cell 1
          have f3 := (S.at_ 0 rfl).free 1
          have f4 : w3.cell? ⟨qf, 2, none⟩ = some (.int .i64 0) := (S.at_ 0 rfl).cell 2
          have f5 := (S.at_ 0 rfl).free 2
          have f6 : w3.cell? ⟨qf, 3, none⟩ = some (.int .i64 0) := (S.at_ 0 rfl).cell 3
          have f7 := (S.at_ 0 rfl).free 3
          have f8 : w3.cell? ⟨qf, 4, none⟩ = some (.int .i64 0) := (S.at_ 0 rfl).cell 4
          have f9 := (S.at_ 0 rfl).free 4
          have f10 : w3.cell? ⟨qf, 5, none⟩ = some (.slice none 0 0) := (S.at_ 0 rfl).cell 5
          have f11 := (S.at_ 0 rfl).free 5
          refine wpAnyL_step (i := 17) (by kernel_rfl) rfl rfl ?_
          intro K hK
          go_simp
          refine hK _ _ (fun h => nomatch (show true = false from h)) ?_
          clear hK K
          try simp only [Act.put]
          refine wpAnyL_done (by kernel_rfl) ?_ _
          replace c := c.setCell (p := ⟨qf, 0, none⟩) (S.base_le 0 rfl) (.int .i64 x0)
          replace S := S.put 0 rfl 0 (.int .i64 x0)
          replace c := c.setCell (p := ⟨qf, 1, none⟩) (S.base_le 0 rfl) (.int .i64 x1)
          replace S := S.put 0 rfl 1 (.int .i64 x1)
          replace c := c.setCell (p := ⟨qf, 2, none⟩) (S.base_le 0 rfl) (.int .i64 x2)
          replace S := S.put 0 rfl 2 (.int .i64 x2)
          replace c := c.setCell (p := ⟨qf, 3, none⟩) (S.base_le 0 rfl) (.int .i64 x3)
          replace S := S.put 0 rfl 3 (.int .i64 x3)
          replace c := c.setCell (p := ⟨qf, 4, none⟩) (S.base_le 0 rfl) (.int .i64 x4)
          replace S := S.put 0 rfl 4 (.int .i64 x4)
          replace c := c.setCell (p := ⟨qf, 5, none⟩) (S.base_le 0 rfl) (.slice none 0 0)
          replace S := S.put 0 rfl 5 (.slice none 0 0)
          clear HF
          generalize (((((w3.setCell ⟨qf, 0, none⟩ (.int .i64 x0)).setCell ⟨qf, 1, none⟩ (.int .i64 x1)).setCell ⟨qf, 2, none⟩ (.int .i64 x2)).setCell ⟨qf, 3, none⟩ (.int .i64 x3)).setCell ⟨qf, 4, none⟩ (.int .i64 x4)).setCell ⟨qf, 5, none⟩ (.slice none 0 0) = w4 at *
          clear f0 f1 f2 f3 f4 f5 f6 f7 f8 f9 f10 f11
          obtain ⟨fp_u, S'⟩ := S.has (Below.refl _ _) (has_nil_djsS w4 w4.heap.size) c.size
          have S0 := Lib.hid S'
          have B0 := Lib.hid c
          clear S S' c
          go_wp2
          go_loopw [5] (fun u wr => ∃ (j p : Nat) (G : Option Addr) (m gc : Nat) (fp : List Nat), j ≤ k ∧ p = 6 + 2 * j ∧ u = .int .i64 (p : Int) ∧ m = j ∧ (∀ i, i < j → True) ∧ Sep wr w.heap.size [.own [djD (duesFrom (d0.drop 6) j)] [.slice G m gc] fp, .blk qf #[.int .i64 x0, .int .i64 x1, .int .i64 x2, .int .i64 x3, .int .i64 x4, .slice G m gc] 25, .blk w.heap.size #[.int .i64 0, .int .i64 0, .int .i64 0, .int .i64 0, .int .i64 0, .slice none 0 0] 25] ∧ Below w.heap.size w wr) (fun u _ => n - (intOf u).toNat)
          case atStart => exact ⟨0, 6, _, _, _, _, Nat.zero_le _, rfl, rfl, rfl, fun i hi => absurd hi (by omega), S0.out, B0.out⟩
          case round =>
            obtain ⟨j, p, G, m, gc, fp, hj, hp, rfl, hm, hall, S, c⟩ := hrel
            clear S0 B0
            have hm9 : m ≤ 20 := by omega
            have HM := Lib.hid hm
            have HP := Lib.hid hp
            have HALL := Lib.hid hall
            have hpn : p < n ∨ (p = n ∧ j = k) := by have := HK.out; omega
            have hp48 : p ≤ 48 := by have := HK.out; omega
            have hj9 : p < n → j < k := by have := HK.out; omega
            have hjp : p < n → p + 2 ≤ n := by have := HK.out; omega
            clear hm hp hall
            by_cases hlt : p < n
            case neg =>
              have ejk : j = k := by omega
              have g1 : decide ((p : Int) < (n : Int)) = false := decide_eq_false (by omega)
              have g2 : decide (p < n) = false := decide_eq_false hlt
              obtain ⟨l9, hl9⟩ : ∃ l, l = duesFrom (d0.drop 6) j := ⟨_, rfl⟩
              have hsz : djSz l9 ≤ 1048577 := by rw [hl9]; unfold djSz; rw [duesFrom_len]; omega
              have HOF9 := Lib.hid (show ofJobs d0 = ⟨x0, x1, x2, x3, x4, l9⟩ by rw [HOF.out, hl9, ejk])
              rw [← hl9] at S
              clear hl9 ejk hlt hpn hj9 hjp
              have f12 : wr.cell? ⟨qf, 0, none⟩ = some (.int .i64 x0) := (S.at_ 1 rfl).cell 0
              have f13 : wr.cell? ⟨qf, 1, none⟩ = some (.int .i64 x1) := (S.at_ 1 rfl).cell 1
              have f14 : wr.cell? ⟨qf, 2, none⟩ = some (.int .i64 x2) := (S.at_ 1 rfl).cell 2
              have f15 : wr.cell? ⟨qf, 3, none⟩ = some (.int .i64 x3) := (S.at_ 1 rfl).cell 3
              have f16 : wr.cell? ⟨qf, 4, none⟩ = some (.int .i64 x4) := (S.at_ 1 rfl).cell 4
              have f17 : wr.cell? ⟨qf, 5, none⟩ = some (.slice G m gc) := (S.at_ 1 rfl).cell 5
              go_wp2_with fail
              refine (sJobsOk_any x0 x1 x2 x3 x4 G m gc _ l9 _ ((S.own_ 0 rfl).rd) (Nat.le_refl _) hsz).mono ?_
              rintro e w5 ⟨rfl, b2⟩
              replace c := c.trans (b2.mono c.size)
              replace S := S.keep b2
              clear b2 f12 f13 f14 f15 f16 f17
              cases hok : jobsOkB ⟨x0, x1, x2, x3, x4, l9⟩
              case false =>
                have HD := Lib.hid (HNO.out (by rw [HOF9.out]; exact hok))
                clear hok
                have f18 : w5.cell? ⟨w.heap.size, 0, none⟩ = some (.int .i64 0) := (S.at_ 2 rfl).cell 0
                have f19 := (S.at_ 2 rfl).free 0
                have f20 : w5.cell? ⟨w.heap.size, 1, none⟩ = some (.int .i64 0) := (S.at_ 2 rfl).cell 1
                have f21 := (S.at_ 2 rfl).free 1
                have f22 : w5.cell? ⟨w.heap.size, 2, none⟩ = some (.int .i64 0) := (S.at_ 2 rfl).cell 2
                have f23 := (S.at_ 2 rfl).free 2
                have f24 : w5.cell? ⟨w.heap.size, 3, none⟩ = some (.int .i64 0) := (S.at_ 2 rfl).cell 3
                have f25 := (S.at_ 2 rfl).free 3
                have f26 : w5.cell? ⟨w.heap.size, 4, none⟩ = some (.int .i64 0) := (S.at_ 2 rfl).cell 4
                have f27 := (S.at_ 2 rfl).free 4
                have f28 : w5.cell? ⟨w.heap.size, 5, none⟩ = some (.slice none 0 0) := (S.at_ 2 rfl).cell 5
                have f29 := (S.at_ 2 rfl).free 5
                replace S := S.put 2 rfl 0 (.int .i64 0)
                replace c := c.setCell (p := ⟨w.heap.size, 0, none⟩) (by show w.heap.size ≤ w.heap.size; omega) (.int .i64 0)
                replace S := S.put 2 rfl 1 (.int .i64 0)
                replace c := c.setCell (p := ⟨w.heap.size, 1, none⟩) (by show w.heap.size ≤ w.heap.size; omega) (.int .i64 0)
                replace S := S.put 2 rfl 2 (.int .i64 0)
                replace c := c.setCell (p := ⟨w.heap.size, 2, none⟩) (by show w.heap.size ≤ w.heap.size; omega) (.int .i64 0)
                replace S := S.put 2 rfl 3 (.int .i64 0)
                replace c := c.setCell (p := ⟨w.heap.size, 3, none⟩) (by show w.heap.size ≤ w.heap.size; omega) (.int .i64 0)
                replace S := S.put 2 rfl 4 (.int .i64 0)
                replace c := c.setCell (p := ⟨w.heap.size, 4, none⟩) (by show w.heap.size ≤ w.heap.size; omega) (.int .i64 0)
                replace S := S.put 2 rfl 5 (.slice none 0 0)
                replace c := c.setCell (p := ⟨w.heap.size, 5, none⟩) (by show w.heap.size ≤ w.heap.size; omega) (.slice none 0 0)
                have r0 := Lib.hid (show ((((((w5.setCell ⟨w.heap.size, 0, none⟩ (.int .i64 0)).setCell ⟨w.heap.size, 1, none⟩ (.int .i64 0)).setCell ⟨w.heap.size, 2, none⟩ (.int .i64 0)).setCell ⟨w.heap.size, 3, none⟩ (.int .i64 0)).setCell ⟨w.heap.size, 4, none⟩ (.int .i64 0)).setCell ⟨w.heap.size, 5, none⟩ (.slice none 0 0)).cell? ⟨w.heap.size, 0, none⟩ = some (.int .i64 0) from (S.at_ 2 rfl).cell 0)
                have r1 := Lib.hid (show ((((((w5.setCell ⟨w.heap.size, 0, none⟩ (.int .i64 0)).setCell ⟨w.heap.size, 1, none⟩ (.int .i64 0)).setCell ⟨w.heap.size, 2, none⟩ (.int .i64 0)).setCell ⟨w.heap.size, 3, none⟩ (.int .i64 0)).setCell ⟨w.heap.size, 4, none⟩ (.int .i64 0)).setCell ⟨w.heap.size, 5, none⟩ (.slice none 0 0)).cell? ⟨w.heap.size, 1, none⟩ = some (.int .i64 0) from (S.at_ 2 rfl).cell 1)
                have r2 := Lib.hid (show ((((((w5.setCell ⟨w.heap.size, 0, none⟩ (.int .i64 0)).setCell ⟨w.heap.size, 1, none⟩ (.int .i64 0)).setCell ⟨w.heap.size, 2, none⟩ (.int .i64 0)).setCell ⟨w.heap.size, 3, none⟩ (.int .i64 0)).setCell ⟨w.heap.size, 4, none⟩ (.int .i64 0)).setCell ⟨w.heap.size, 5, none⟩ (.slice none 0 0)).cell? ⟨w.heap.size, 2, none⟩ = some (.int .i64 0) from (S.at_ 2 rfl).cell 2)
                have r3 := Lib.hid (show ((((((w5.setCell ⟨w.heap.size, 0, none⟩ (.int .i64 0)).setCell ⟨w.heap.size, 1, none⟩ (.int .i64 0)).setCell ⟨w.heap.size, 2, none⟩ (.int .i64 0)).setCell ⟨w.heap.size, 3, none⟩ (.int .i64 0)).setCell ⟨w.heap.size, 4, none⟩ (.int .i64 0)).setCell ⟨w.heap.size, 5, none⟩ (.slice none 0 0)).cell? ⟨w.heap.size, 3, none⟩ = some (.int .i64 0) from (S.at_ 2 rfl).cell 3)
                have r4 := Lib.hid (show ((((((w5.setCell ⟨w.heap.size, 0, none⟩ (.int .i64 0)).setCell ⟨w.heap.size, 1, none⟩ (.int .i64 0)).setCell ⟨w.heap.size, 2, none⟩ (.int .i64 0)).setCell ⟨w.heap.size, 3, none⟩ (.int .i64 0)).setCell ⟨w.heap.size, 4, none⟩ (.int .i64 0)).setCell ⟨w.heap.size, 5, none⟩ (.slice none 0 0)).cell? ⟨w.heap.size, 4, none⟩ = some (.int .i64 0) from (S.at_ 2 rfl).cell 4)
                have r5 := Lib.hid (show ((((((w5.setCell ⟨w.heap.size, 0, none⟩ (.int .i64 0)).setCell ⟨w.heap.size, 1, none⟩ (.int .i64 0)).setCell ⟨w.heap.size, 2, none⟩ (.int .i64 0)).setCell ⟨w.heap.size, 3, none⟩ (.int .i64 0)).setCell ⟨w.heap.size, 4, none⟩ (.int .i64 0)).setCell ⟨w.heap.size, 5, none⟩ (.slice none 0 0)).cell? ⟨w.heap.size, 5, none⟩ = some (.slice none 0 0) from (S.at_ 2 rfl).cell 5)
                have CC := Lib.hid c
                clear S c
                go_wp2
                exact bodyPost_ret (v := .tuple #[.agg #[.int .i64 0, .int .i64 0, .int .i64 0, .int .i64 0, .int .i64 0, .slice none 0 0], .bool false]) (by simp [results, Try.results7, go_sem, r0.out, r1.out, r2.out, r3.out, r4.out, r5.out]) rfl ⟨0, 0, 0, 0, 0, none, 0, 0, by rw [HD.out] <;> rfl, by rw [HD.out]; exact Has.int (Has.int (Has.int (Has.int (Has.int (has_nil_djsS _ _))))), CC.out⟩
              case true =>
                have HD := Lib.hid (show rowJobsM d0 = (⟨x0, x1, x2, x3, x4, l9⟩, true) by unfold rowJobsM; rw [if_pos ⟨HCOND.out.1, HCOND.out.2.1, HCOND.out.2.2.1, HCOND.out.2.2.2, by rw [HOF9.out]; exact hok⟩, HOF9.out])
                clear hok
                have f18 : w5.cell? ⟨qf, 0, none⟩ = some (.int .i64 x0) := (S.at_ 1 rfl).cell 0
                have f19 : w5.cell? ⟨qf, 1, none⟩ = some (.int .i64 x1) := (S.at_ 1 rfl).cell 1
                have f20 : w5.cell? ⟨qf, 2, none⟩ = some (.int .i64 x2) := (S.at_ 1 rfl).cell 2
                have f21 : w5.cell? ⟨qf, 3, none⟩ = some (.int .i64 x3) := (S.at_ 1 rfl).cell 3
                have f22 : w5.cell? ⟨qf, 4, none⟩ = some (.int .i64 x4) := (S.at_ 1 rfl).cell 4
                have f23 : w5.cell? ⟨qf, 5, none⟩ = some (.slice G m gc) := (S.at_ 1 rfl).cell 5
                have f24 : w5.cell? ⟨w.heap.size, 0, none⟩ = some (.int .i64 0) := (S.at_ 2 rfl).cell 0
                have f25 := (S.at_ 2 rfl).free 0
                have f26 : w5.cell? ⟨w.heap.size, 1, none⟩ = some (.int .i64 0) := (S.at_ 2 rfl).cell 1
                have f27 := (S.at_ 2 rfl).free 1
                have f28 : w5.cell? ⟨w.heap.size, 2, none⟩ = some (.int .i64 0) := (S.at_ 2 rfl).cell 2
                have f29 := (S.at_ 2 rfl).free 2
                have f30 : w5.cell? ⟨w.heap.size, 3, none⟩ = some (.int .i64 0) := (S.at_ 2 rfl).cell 3
                have f31 := (S.at_ 2 rfl).free 3
                have f32 : w5.cell? ⟨w.heap.size, 4, none⟩ = some (.int .i64 0) := (S.at_ 2 rfl).cell 4
                have f33 := (S.at_ 2 rfl).free 4
                have f34 : w5.cell? ⟨w.heap.size, 5, none⟩ = some (.slice none 0 0) := (S.at_ 2 rfl).cell 5
                have f35 := (S.at_ 2 rfl).free 5
                replace S := S.put 2 rfl 0 (.int .i64 x0)
                replace c := c.setCell (p := ⟨w.heap.size, 0, none⟩) (by show w.heap.size ≤ w.heap.size; omega) (.int .i64 x0)
                replace S := S.put 2 rfl 1 (.int .i64 x1)
                replace c := c.setCell (p := ⟨w.heap.size, 1, none⟩) (by show w.heap.size ≤ w.heap.size; omega) (.int .i64 x1)
                replace S := S.put 2 rfl 2 (.int .i64 x2)
                replace c := c.setCell (p := ⟨w.heap.size, 2, none⟩) (by show w.heap.size ≤ w.heap.size; omega) (.int .i64 x2)
                replace S := S.put 2 rfl 3 (.int .i64 x3)
                replace c := c.setCell (p := ⟨w.heap.size, 3, none⟩) (by show w.heap.size ≤ w.heap.size; omega) (.int .i64 x3)
                replace S := S.put 2 rfl 4 (.int .i64 x4)
                replace c := c.setCell (p := ⟨w.heap.size, 4, none⟩) (by show w.heap.size ≤ w.heap.size; omega) (.int .i64 x4)
                replace S := S.put 2 rfl 5 (.slice G m gc)
                replace c := c.setCell (p := ⟨w.heap.size, 5, none⟩) (by show w.heap.size ≤ w.heap.size; omega) (.slice G m gc)
                have r0 := Lib.hid (show ((((((w5.setCell ⟨w.heap.size, 0, none⟩ (.int .i64 x0)).setCell ⟨w.heap.size, 1, none⟩ (.int .i64 x1)).setCell ⟨w.heap.size, 2, none⟩ (.int .i64 x2)).setCell ⟨w.heap.size, 3, none⟩ (.int .i64 x3)).setCell ⟨w.heap.size, 4, none⟩ (.int .i64 x4)).setCell ⟨w.heap.size, 5, none⟩ (.slice G m gc)).cell? ⟨w.heap.size, 0, none⟩ = some (.int .i64 x0) from (S.at_ 2 rfl).cell 0)
                have r1 := Lib.hid (show ((((((w5.setCell ⟨w.heap.size, 0, none⟩ (.int .i64 x0)).setCell ⟨w.heap.size, 1, none⟩ (.int .i64 x1)).setCell ⟨w.heap.size, 2, none⟩ (.int .i64 x2)).setCell ⟨w.heap.size, 3, none⟩ (.int .i64 x3)).setCell ⟨w.heap.size, 4, none⟩ (.int .i64 x4)).setCell ⟨w.heap.size, 5, none⟩ (.slice G m gc)).cell? ⟨w.heap.size, 1, none⟩ = some (.int .i64 x1) from (S.at_ 2 rfl).cell 1)
                have r2 := Lib.hid (show ((((((w5.setCell ⟨w.heap.size, 0, none⟩ (.int .i64 x0)).setCell ⟨w.heap.size, 1, none⟩ (.int .i64 x1)).setCell ⟨w.heap.size, 2, none⟩ (.int .i64 x2)).setCell ⟨w.heap.size, 3, none⟩ (.int .i64 x3)).setCell ⟨w.heap.size, 4, none⟩ (.int .i64 x4)).setCell ⟨w.heap.size, 5, none⟩ (.slice G m gc)).cell? ⟨w.heap.size, 2, none⟩ = some (.int .i64 x2) from (S.at_ 2 rfl).cell 2)
                have r3 := Lib.hid (show ((((((w5.setCell ⟨w.heap.size, 0, none⟩ (.int .i64 x0)).setCell ⟨w.heap.size, 1, none⟩ (.int .i64 x1)).setCell ⟨w.heap.size, 2, none⟩ (.int .i64 x2)).setCell ⟨w.heap.size, 3, none⟩ (.int .i64 x3)).setCell ⟨w.heap.size, 4, none⟩ (.int .i64 x4)).setCell ⟨w.heap.size, 5, none⟩ (.slice G m gc)).cell? ⟨w.heap.size, 3, none⟩ = some (.int .i64 x3) from (S.at_ 2 rfl).cell 3)
                have r4 := Lib.hid (show ((((((w5.setCell ⟨w.heap.size, 0, none⟩ (.int .i64 x0)).setCell ⟨w.heap.size, 1, none⟩ (.int .i64 x1)).setCell ⟨w.heap.size, 2, none⟩ (.int .i64 x2)).setCell ⟨w.heap.size, 3, none⟩ (.int .i64 x3)).setCell ⟨w.heap.size, 4, none⟩ (.int .i64 x4)).setCell ⟨w.heap.size, 5, none⟩ (.slice G m gc)).cell? ⟨w.heap.size, 4, none⟩ = some (.int .i64 x4) from (S.at_ 2 rfl).cell 4)
                have r5 := Lib.hid (show ((((((w5.setCell ⟨w.heap.size, 0, none⟩ (.int .i64 x0)).setCell ⟨w.heap.size, 1, none⟩ (.int .i64 x1)).setCell ⟨w.heap.size, 2, none⟩ (.int .i64 x2)).setCell ⟨w.heap.size, 3, none⟩ (.int .i64 x3)).setCell ⟨w.heap.size, 4, none⟩ (.int .i64 x4)).setCell ⟨w.heap.size, 5, none⟩ (.slice G m gc)).cell? ⟨w.heap.size, 5, none⟩ = some (.slice G m gc) from (S.at_ 2 rfl).cell 5)
                have CC := Lib.hid c
                have H := Lib.hid ((S.pick 0 rfl).first)
                clear S c
                go_wp2
                exact bodyPost_ret (v := .tuple #[.agg #[.int .i64 x0, .int .i64 x1, .int .i64 x2, .int .i64 x3, .int .i64 x4, .slice G m gc], .bool true]) (by simp [results, Try.results7, go_sem, r0.out, r1.out, r2.out, r3.out, r4.out, r5.out]) rfl ⟨x0, x1, x2, x3, x4, G, m, gc, by rw [HD.out] <;> rfl, by rw [HD.out]; exact Has.int (Has.int (Has.int (Has.int (Has.int (H.out))))), CC.out⟩
            case pos =>
              have hpL := hjp hlt
              have hjk := hj9 hlt
              have g1 : decide ((p : Int) < (n : Int)) = true := decide_eq_true (by omega)
              have g2 : decide (p < n) = true := decide_eq_true hlt
              have ew : IntKind.i64.wrap ((p : Int) + 2) = (p : Int) + 2 := by rw [IntKind.wrap_i64]; omega
              have HLT := Lib.hid hlt
              have HPL := Lib.hid hpL
              have HJK := Lib.hid hjk
              obtain ⟨z0, hz0⟩ : ∃ x, x = d0.getD p 0 := ⟨_, rfl⟩
              obtain ⟨z1, hz1⟩ : ∃ x, x = d0.getD (p + 1) 0 := ⟨_, rfl⟩
              have ka := HC.out p (by omega)
              have kb := HC.out (p + 1) (by omega)
              rw [← hz0] at ka
              rw [← hz1] at kb
              have HN := Lib.hid (show duesFrom (d0.drop 6) (j + 1) = duesFrom (d0.drop 6) j ++ [⟨z0, z1⟩] by
                rw [duesFrom_succ]
                unfold dueOf
                simp only [getD_dropS]
                have e8 : 6 + (2 * j + 0) = p := by have := HP.out; omega
                have e9 : 6 + (2 * j + 1) = p + 1 := by have := HP.out; omega
                rw [e8, e9, ← hz0, ← hz1])
              have ew1 : IntKind.i64.wrap ((p : Int) + 1) = (p : Int) + 1 := by rw [IntKind.wrap_i64]; omega
              have hpi : (p : Int) < (n : Int) := by omega
              have hpi1 : (p : Int) + 1 < (n : Int) := by omega
              have hp0 : (0 : Int) ≤ (p : Int) := by omega
              have hp1 : (0 : Int) ≤ (p : Int) + 1 := by omega
              have hpin : p + 1 < n := by omega
              have etn : ((p : Int) + 1).toNat = p + 1 := by omega
              clear hz0 hz1 hpn hj9 hjp hjk hpL
              go_wp2_with fail
              refine wp_region_L (fun v => v.cell? ⟨qf, 5, none⟩ = some (.slice G m gc) ∧ v.cell? ⟨b, off + p, none⟩ = some (.int .i64 z0) ∧ v.cell? ⟨b, off + (p + 1), none⟩ = some (.int .i64 z1)) 15 (by kernel_rfl) ?_
              replace S := S.keep ((Below.refl _ _).drew)
              replace c := c.drew
              generalize wr.drew = w5 at *
              have HF : w5.cell? ⟨qf, 5, none⟩ = some (.slice G m gc) ∧ w5.cell? ⟨b, off + p, none⟩ = some (.int .i64 z0) ∧ w5.cell? ⟨b, off + (p + 1), none⟩ = some (.int .i64 z1) := ⟨(S.at_ 1 rfl).cell 5, (c.cell (p := ⟨b, off + p, none⟩) (show b < _ by omega)).trans ka, (c.cell (p := ⟨b, off + (p + 1), none⟩) (show b < _ by omega)).trans kb⟩
              refine wpAnyL_take (i := 0) (v := ?_) rfl rfl (by kernel_rfl) (by kernel_rfl) (by kernel_rfl) (by kernel_rfl) (by kernel_rfl) (fun _ _ _ h => h) HF (Or.inl ⟨by rfl, ?_⟩) ?_
              rotate_left 1
              · (rintro v ⟨a0, a1, a2⟩; go_simp; try with_reducible rfl)
              try simp only [Act.put]
              refine wpAnyL_take (i := 1) (v := ?_) rfl rfl (by kernel_rfl) (by kernel_rfl) (by kernel_rfl) (by kernel_rfl) (by kernel_rfl) (fun _ _ _ h => h) HF (Or.inl ⟨by rfl, ?_⟩) ?_
              rotate_left 1
              · (rintro v ⟨a0, a1, a2⟩; go_simp; try with_reducible rfl)
              try simp only [Act.put]
              refine wpAnyL_take (i := 2) (v := ?_) rfl rfl (by kernel_rfl) (by kernel_rfl) (by kernel_rfl) (by kernel_rfl) (by kernel_rfl) (fun _ _ _ h => h) HF (Or.inl ⟨by rfl, ?_⟩) ?_
              rotate_left 1
              · (rintro v ⟨a0, a1, a2⟩; go_simp; try with_reducible rfl)
              try simp only [Act.put]
              refine wpAnyL_take (i := 3) (v := ?_) rfl rfl (by kernel_rfl) (by kernel_rfl) (by kernel_rfl) (by kernel_rfl) (by kernel_rfl) (fun _ _ _ h => h) HF (Or.inl ⟨by rfl, ?_⟩) ?_
              rotate_left 1
              · (rintro v ⟨a0, a1, a2⟩; go_simp; try with_reducible rfl)
              try simp only [Act.put]
              refine wpAnyL_take (i := 4) (v := ?_) rfl rfl (by kernel_rfl) (by kernel_rfl) (by kernel_rfl) (by kernel_rfl) (by kernel_rfl) (fun _ _ _ h => h) HF (Or.inl ⟨by rfl, ?_⟩) ?_
              rotate_left 1
              · (rintro v ⟨a0, a1, a2⟩; go_simp; try with_reducible rfl)
              try simp only [Act.put]
              refine wpAnyL_take (i := 5) (v := ?_) rfl rfl (by kernel_rfl) (by kernel_rfl) (by kernel_rfl) (by kernel_rfl) (by kernel_rfl) (fun _ _ _ h => h) HF (Or.inl ⟨by rfl, ?_⟩) ?_
              rotate_left 1
              · (rintro v ⟨a0, a1, a2⟩; go_simp; try with_reducible rfl)
              try simp only [Act.put]
              refine wpAnyL_take (i := 6) (v := ?_) rfl rfl (by kernel_rfl) (by kernel_rfl) (by kernel_rfl) (by kernel_rfl) (by kernel_rfl) (fun _ _ _ h => h) HF (Or.inl ⟨by rfl, ?_⟩) ?_
              rotate_left 1
              · (rintro v ⟨a0, a1, a2⟩; go_simp; try with_reducible rfl)
              try simp only [Act.put]
              refine wpAnyL_take (i := 7) (v := ?_) rfl rfl (by kernel_rfl) (by kernel_rfl) (by kernel_rfl) (by kernel_rfl) (by kernel_rfl) (fun _ _ _ h => h) HF (Or.inl ⟨by rfl, ?_⟩) ?_
              rotate_left 1
              · (rintro v ⟨a0, a1, a2⟩; go_simp; try with_reducible rfl)
              try simp only [Act.put]
              refine wpAnyL_take (i := 8) (v := ?_) rfl rfl (by kernel_rfl) (by kernel_rfl) (by kernel_rfl) (by kernel_rfl) (by kernel_rfl) (fun _ _ _ h => h) HF (Or.inl ⟨by rfl, ?_⟩) ?_
              rotate_left 1
              · (rintro v ⟨a0, a1, a2⟩; go_simp; try with_reducible rfl)
              try simp only [Act.put]
              refine wpAnyL_take (i := 9) (v := ?_) rfl rfl (by kernel_rfl) (by kernel_rfl) (by kernel_rfl) (by kernel_rfl) (by kernel_rfl) (fun _ _ _ h => h) HF (Or.inl ⟨by rfl, ?_⟩) ?_
              rotate_left 1
              · (rintro v ⟨a0, a1, a2⟩; go_simp; try with_reducible rfl)
              try simp only [Act.put]
              refine wpAnyL_take (i := 10) (v := ?_) rfl rfl (by kernel_rfl) (by kernel_rfl) (by kernel_rfl) (by kernel_rfl) (by kernel_rfl) (fun _ _ _ h => h) HF (Or.inl ⟨by rfl, ?_⟩) ?_
              rotate_left 1
              · (rintro v ⟨a0, a1, a2⟩; go_simp; try with_reducible rfl)
              try simp only [Act.put]
              refine wpAnyL_take (i := 11) (v := ?_) rfl rfl (by kernel_rfl) (by kernel_rfl) (by kernel_rfl) (by kernel_rfl) (by kernel_rfl) (fun _ _ _ h => h) HF (Or.inl ⟨by rfl, ?_⟩) ?_
              rotate_left 1
              · (rintro v ⟨a0, a1, a2⟩; go_simp; try with_reducible rfl)
              try simp only [Act.put]
              refine wpAnyL_step (i := 12) (by kernel_rfl) rfl rfl ?_
              intro K hK
              go_simp
              replace S := S.boxAt c.size (w5.heap.size) rfl #[.int .i64 z0, .int .i64 z1] 80
              replace c := c.alloc c.size (.cells #[.int .i64 z0, .int .i64 z1] 80)
              clear HF
              have HF : (w5.alloc (.cells #[.int .i64 z0, .int .i64 z1] 80)).cell? ⟨qf, 5, none⟩ = some (.slice G m gc) ∧ (w5.alloc (.cells #[.int .i64 z0, .int .i64 z1] 80)).cell? ⟨b, off + p, none⟩ = some (.int .i64 z0) ∧ (w5.alloc (.cells #[.int .i64 z0, .int .i64 z1] 80)).cell? ⟨b, off + (p + 1), none⟩ = some (.int .i64 z1) := ⟨(S.at_ 2 rfl).cell 5, (c.cell (p := ⟨b, off + p, none⟩) (show b < _ by omega)).trans ka, (c.cell (p := ⟨b, off + (p + 1), none⟩) (show b < _ by omega)).trans kb⟩
              refine hK _ _ (fun _ => HF) ?_
              clear hK K
              try simp only [Act.put]
              generalize hw : w5.alloc (.cells #[.int .i64 z0, .int .i64 z1] 80) = w6 at *
              clear hw
              obtain ⟨qo, hqo⟩ : ∃ q, q = w5.heap.size := ⟨_, rfl⟩
              rw [← hqo] at S ⊢
              clear hqo
              have HCL : ∀ i, i < 2 → w6.cell? ⟨qo, i, none⟩ = [Value.int .i64 z0, Value.int .i64 z1][i]? := fun i hi => by
                have h1 := (S.at_ 0 rfl).cell i
                rw [h1]
                simp
              replace S := (S.tail).own0 (ds := djC ⟨z0, z1⟩) (vs := [.int .i64 z0, .int .i64 z1]) (.int (.int (.nil)))
              replace S := S.pick 1 rfl
              refine wpAnyL_step (i := 13) (by kernel_rfl) rfl rfl ?_
              intro K hK
              refine wp_append_elem (l := duesFrom (d0.drop 6) j) (y := (⟨z0, z1⟩ : TimerM)) _ _ (by rfl) Try.underlying23 infoDue (by rfl) (by decide) djC_len (by rfl) (S.own_ 0 rfl) (S.nodup_own 0 rfl) (by rfl) HCL (S.own_ 1 rfl) (S.nodup_own 1 rfl) S.apart (by omega) (by omega) ?_
              intro A3 c3 w7 fp3 o3 n3 s3 t3
              have S' := S.merge t3 o3 n3 s3 c.size
              replace c := c.trans (S.below 0 rfl t3 c.size)
              clear S; have S := S'; clear S' o3 n3 s3 t3 HCL
              clear HF
              have HF : w7.cell? ⟨qf, 5, none⟩ = some (.slice G m gc) ∧ w7.cell? ⟨b, off + p, none⟩ = some (.int .i64 z0) ∧ w7.cell? ⟨b, off + (p + 1), none⟩ = some (.int .i64 z1) := ⟨(S.at_ 1 rfl).cell 5, (c.cell (p := ⟨b, off + p, none⟩) (show b < _ by omega)).trans ka, (c.cell (p := ⟨b, off + (p + 1), none⟩) (show b < _ by omega)).trans kb⟩
              refine hK _ _ (fun _ => HF) ?_
              clear hK K
              try simp only [Act.put]
              refine wpAnyL_take (i := 14) (v := ?_) rfl rfl (by kernel_rfl) (by kernel_rfl) (by kernel_rfl) (by kernel_rfl) (by kernel_rfl) (fun _ _ _ h => h) HF (Or.inl ⟨by rfl, ?_⟩) ?_
              rotate_left 1
              · (rintro v ⟨a0, a1, a2⟩; go_simp; try with_reducible rfl)
              try simp only [Act.put]
              have f12 : w7.cell? ⟨qf, 0, none⟩ = some (.int .i64 x0) := (S.at_ 1 rfl).cell 0
              have f13 := (S.at_ 1 rfl).free 0
              have f14 : w7.cell? ⟨qf, 1, none⟩ = some (.int .i64 x1) := (S.at_ 1 rfl).cell 1
              have f15 := (S.at_ 1 rfl).free 1
              have f16 : w7.cell? ⟨qf, 2, none⟩ = some (.int .i64 x2) := (S.at_ 1 rfl).cell 2
              have f17 := (S.at_ 1 rfl).free 2
              have f18 : w7.cell? ⟨qf, 3, none⟩ = some (.int .i64 x3) := (S.at_ 1 rfl).cell 3
              have f19 := (S.at_ 1 rfl).free 3
              have f20 : w7.cell? ⟨qf, 4, none⟩ = some (.int .i64 x4) := (S.at_ 1 rfl).cell 4
              have f21 := (S.at_ 1 rfl).free 4
              have f22 : w7.cell? ⟨qf, 5, none⟩ = some (.slice G m gc) := (S.at_ 1 rfl).cell 5
              have f23 := (S.at_ 1 rfl).free 5
              refine wpAnyL_step (i := 15) (by kernel_rfl) rfl rfl ?_
              intro K hK
              go_simp
              refine hK _ _ (fun h => nomatch (show true = false from h)) ?_
              clear hK K
              try simp only [Act.put]
              refine wpAnyL_done (by kernel_rfl) ?_ _
              replace c := c.setCell (p := ⟨qf, 5, none⟩) (S.base_le 1 rfl) (.slice A3 (m + 1) c3)
              replace S := S.put 1 rfl 5 (.slice A3 (m + 1) c3)
              clear HF
              generalize w7.setCell ⟨qf, 5, none⟩ (.slice A3 (m + 1) c3) = w8 at *
              clear f12 f13 f14 f15 f16 f17 f18 f19 f20 f21 f22 f23
              rw [← HN.out] at S
              have SS := Lib.hid S
              have CC := Lib.hid c
              clear S c ka kb
              go_wp2
              go_roundw
              case rel => exact ⟨j + 1, p + 2, A3, m + 1, c3, _, by have := HJK.out; omega, by have := HP.out; omega, by go_num, by have := HM.out; omega, fun _ _ => trivial, SS.out, CC.out⟩
              case measure => (have := HLT.out; simp [intOf] <;> omega)


end Go.Proofs.Ytepnghjmpbfmcaa
