/-
  Chapter 11: rows of messages, of the model (by program, wip/gen/genlets2.py).
-/
import Derived.Test.YtmalpkbdaghemaaLetS1
import Derived.Test.YtmalpkbdaghemaaEntL
import Derived.Test.YtmalpkbdaghemaaMove
import Derived.RegionTactic
import Derived.BigQuiet
import Derived.Laws.EntriesVeiled
namespace Go.Proofs.Ytmalpkbdaghemaa
set_option maxRecDepth 100000
open Go.RowKit

set_option maxHeartbeats 3200000 in
theorem sAckRow_any (x0 x1 x2 x3 : Int) (w : World) :
    Calls Try.prog 15 #[.agg #[.int .i64 x0, .int .i64 x1, .int .i64 x2, .int .i64 x3]] w fun e w' => ∃ (A : Option Addr) (n c : Nat), e = .returned (.slice A n c) ∧ Has w' w.heap.size (rowCells (ackRowM ⟨x0, x1, x2, x3⟩)) [.slice A n c] ∧ Below w.heap.size w w' := by
  have S := Sep.nil w w.heap.size
  have c := Below.refl w.heap.size w
  replace S := S.boxAt c.size (w.heap.size) rfl #[.int .i64 x0, .int .i64 x1, .int .i64 x2, .int .i64 x3] 38
  replace c := c.alloc c.size (.cells #[.int .i64 x0, .int .i64 x1, .int .i64 x2, .int .i64 x3] 38)
  go_enter Try.func15, Try.ntmps15
  have f0 : (w.alloc (.cells #[.int .i64 x0, .int .i64 x1, .int .i64 x2, .int .i64 x3] 38)).cell? ⟨w.heap.size, 0, none⟩ = some (.int .i64 x0) := (S.at_ 0 rfl).cell 0
  have f1 : (w.alloc (.cells #[.int .i64 x0, .int .i64 x1, .int .i64 x2, .int .i64 x3] 38)).cell? ⟨w.heap.size, 1, none⟩ = some (.int .i64 x1) := (S.at_ 0 rfl).cell 1
  have f2 : (w.alloc (.cells #[.int .i64 x0, .int .i64 x1, .int .i64 x2, .int .i64 x3] 38)).cell? ⟨w.heap.size, 2, none⟩ = some (.int .i64 x2) := (S.at_ 0 rfl).cell 2
  have f3 : (w.alloc (.cells #[.int .i64 x0, .int .i64 x1, .int .i64 x2, .int .i64 x3] 38)).cell? ⟨w.heap.size, 3, none⟩ = some (.int .i64 x3) := (S.at_ 0 rfl).cell 3
  go_wp2_with fail
  generalize w.alloc (.cells #[.int .i64 x0, .int .i64 x1, .int .i64 x2, .int .i64 x3] 38) = w1 at *
  refine (sAckOk_any x0 x1 x2 x3 _).mono ?_
  rintro e w2 ⟨rfl, b⟩
  replace c := c.trans (b.mono c.size)
  replace S := S.keep b
  clear b f0 f1 f2 f3
  have f4 : w2.cell? ⟨w.heap.size, 0, none⟩ = some (.int .i64 x0) := (S.at_ 0 rfl).cell 0
  have f5 : w2.cell? ⟨w.heap.size, 1, none⟩ = some (.int .i64 x1) := (S.at_ 0 rfl).cell 1
  have f6 : w2.cell? ⟨w.heap.size, 2, none⟩ = some (.int .i64 x2) := (S.at_ 0 rfl).cell 2
  have f7 : w2.cell? ⟨w.heap.size, 3, none⟩ = some (.int .i64 x3) := (S.at_ 0 rfl).cell 3
  cases hok : ackOkB ⟨x0, x1, x2, x3⟩
  case false =>
    have HV := Lib.hid (show ackRowM ⟨x0, x1, x2, x3⟩ = [] by unfold ackRowM; rw [hok]; rfl)
    have H := Lib.hid ((has_lit w2 [] (by simp)).up c.size)
    have C := Lib.hid (c.alloc c.size (.cells #[] 2))
    clear S c hok
    go_wp2
    go_ret
    exact ⟨_, _, _, rfl, by rw [HV.out]; exact H.out, C.out⟩
  case true =>
    have HV := Lib.hid (show ackRowM ⟨x0, x1, x2, x3⟩ = [2, x0, x1, x2, x3] by unfold ackRowM; rw [if_pos hok]; rfl)
    have H := Lib.hid ((has_lit w2 [2, x0, x1, x2, x3] (by simp)).up c.size)
    have C := Lib.hid (c.alloc c.size (.cells #[.int .i64 2, .int .i64 x0, .int .i64 x1, .int .i64 x2, .int .i64 x3] 2))
    clear S c hok
    go_wp2
    go_ret
    exact ⟨_, _, _, rfl, by rw [HV.out]; exact H.out, C.out⟩

set_option maxHeartbeats 3200000 in
theorem sReadRow_any (x0 x1 x2 x3 : Int) (w : World) :
    Calls Try.prog 22 #[.agg #[.int .i64 x0, .int .i64 x1, .int .i64 x2, .int .i64 x3]] w fun e w' => ∃ (A : Option Addr) (n c : Nat), e = .returned (.slice A n c) ∧ Has w' w.heap.size (rowCells (readRowM ⟨x0, x1, x2, x3⟩)) [.slice A n c] ∧ Below w.heap.size w w' := by
  have S := Sep.nil w w.heap.size
  have c := Below.refl w.heap.size w
  replace S := S.boxAt c.size (w.heap.size) rfl #[.int .i64 x0, .int .i64 x1, .int .i64 x2, .int .i64 x3] 46
  replace c := c.alloc c.size (.cells #[.int .i64 x0, .int .i64 x1, .int .i64 x2, .int .i64 x3] 46)
  go_enter Try.func22, Try.ntmps22
  have f0 : (w.alloc (.cells #[.int .i64 x0, .int .i64 x1, .int .i64 x2, .int .i64 x3] 46)).cell? ⟨w.heap.size, 0, none⟩ = some (.int .i64 x0) := (S.at_ 0 rfl).cell 0
  have f1 : (w.alloc (.cells #[.int .i64 x0, .int .i64 x1, .int .i64 x2, .int .i64 x3] 46)).cell? ⟨w.heap.size, 1, none⟩ = some (.int .i64 x1) := (S.at_ 0 rfl).cell 1
  have f2 : (w.alloc (.cells #[.int .i64 x0, .int .i64 x1, .int .i64 x2, .int .i64 x3] 46)).cell? ⟨w.heap.size, 2, none⟩ = some (.int .i64 x2) := (S.at_ 0 rfl).cell 2
  have f3 : (w.alloc (.cells #[.int .i64 x0, .int .i64 x1, .int .i64 x2, .int .i64 x3] 46)).cell? ⟨w.heap.size, 3, none⟩ = some (.int .i64 x3) := (S.at_ 0 rfl).cell 3
  go_wp2_with fail
  generalize w.alloc (.cells #[.int .i64 x0, .int .i64 x1, .int .i64 x2, .int .i64 x3] 46) = w1 at *
  refine (sReadOk_any x0 x1 x2 x3 _).mono ?_
  rintro e w2 ⟨rfl, b⟩
  replace c := c.trans (b.mono c.size)
  replace S := S.keep b
  clear b f0 f1 f2 f3
  have f4 : w2.cell? ⟨w.heap.size, 0, none⟩ = some (.int .i64 x0) := (S.at_ 0 rfl).cell 0
  have f5 : w2.cell? ⟨w.heap.size, 1, none⟩ = some (.int .i64 x1) := (S.at_ 0 rfl).cell 1
  have f6 : w2.cell? ⟨w.heap.size, 2, none⟩ = some (.int .i64 x2) := (S.at_ 0 rfl).cell 2
  have f7 : w2.cell? ⟨w.heap.size, 3, none⟩ = some (.int .i64 x3) := (S.at_ 0 rfl).cell 3
  cases hok : readOkB ⟨x0, x1, x2, x3⟩
  case false =>
    have HV := Lib.hid (show readRowM ⟨x0, x1, x2, x3⟩ = [] by unfold readRowM; rw [hok]; rfl)
    have H := Lib.hid ((has_lit w2 [] (by simp)).up c.size)
    have C := Lib.hid (c.alloc c.size (.cells #[] 2))
    clear S c hok
    go_wp2
    go_ret
    exact ⟨_, _, _, rfl, by rw [HV.out]; exact H.out, C.out⟩
  case true =>
    have HV := Lib.hid (show readRowM ⟨x0, x1, x2, x3⟩ = [6, x0, x1, x2, x3] by unfold readRowM; rw [if_pos hok]; rfl)
    have H := Lib.hid ((has_lit w2 [6, x0, x1, x2, x3] (by simp)).up c.size)
    have C := Lib.hid (c.alloc c.size (.cells #[.int .i64 6, .int .i64 x0, .int .i64 x1, .int .i64 x2, .int .i64 x3] 2))
    clear S c hok
    go_wp2
    go_ret
    exact ⟨_, _, _, rfl, by rw [HV.out]; exact H.out, C.out⟩

set_option maxHeartbeats 3200000 in
theorem sValueRow_any (x0 x1 x2 x3 x4 : Int) (w : World) :
    Calls Try.prog 25 #[.agg #[.int .i64 x0, .int .i64 x1, .int .i64 x2, .int .i64 x3, .int .i64 x4]] w fun e w' => ∃ (A : Option Addr) (n c : Nat), e = .returned (.slice A n c) ∧ Has w' w.heap.size (rowCells (valueRowM ⟨x0, x1, x2, x3, x4⟩)) [.slice A n c] ∧ Below w.heap.size w w' := by
  have S := Sep.nil w w.heap.size
  have c := Below.refl w.heap.size w
  replace S := S.boxAt c.size (w.heap.size) rfl #[.int .i64 x0, .int .i64 x1, .int .i64 x2, .int .i64 x3, .int .i64 x4] 52
  replace c := c.alloc c.size (.cells #[.int .i64 x0, .int .i64 x1, .int .i64 x2, .int .i64 x3, .int .i64 x4] 52)
  go_enter Try.func25, Try.ntmps25
  have f0 : (w.alloc (.cells #[.int .i64 x0, .int .i64 x1, .int .i64 x2, .int .i64 x3, .int .i64 x4] 52)).cell? ⟨w.heap.size, 0, none⟩ = some (.int .i64 x0) := (S.at_ 0 rfl).cell 0
  have f1 : (w.alloc (.cells #[.int .i64 x0, .int .i64 x1, .int .i64 x2, .int .i64 x3, .int .i64 x4] 52)).cell? ⟨w.heap.size, 1, none⟩ = some (.int .i64 x1) := (S.at_ 0 rfl).cell 1
  have f2 : (w.alloc (.cells #[.int .i64 x0, .int .i64 x1, .int .i64 x2, .int .i64 x3, .int .i64 x4] 52)).cell? ⟨w.heap.size, 2, none⟩ = some (.int .i64 x2) := (S.at_ 0 rfl).cell 2
  have f3 : (w.alloc (.cells #[.int .i64 x0, .int .i64 x1, .int .i64 x2, .int .i64 x3, .int .i64 x4] 52)).cell? ⟨w.heap.size, 3, none⟩ = some (.int .i64 x3) := (S.at_ 0 rfl).cell 3
  have f4 : (w.alloc (.cells #[.int .i64 x0, .int .i64 x1, .int .i64 x2, .int .i64 x3, .int .i64 x4] 52)).cell? ⟨w.heap.size, 4, none⟩ = some (.int .i64 x4) := (S.at_ 0 rfl).cell 4
  go_wp2_with fail
  generalize w.alloc (.cells #[.int .i64 x0, .int .i64 x1, .int .i64 x2, .int .i64 x3, .int .i64 x4] 52) = w1 at *
  refine (sValueOk_any x0 x1 x2 x3 x4 _).mono ?_
  rintro e w2 ⟨rfl, b⟩
  replace c := c.trans (b.mono c.size)
  replace S := S.keep b
  clear b f0 f1 f2 f3 f4
  have f5 : w2.cell? ⟨w.heap.size, 0, none⟩ = some (.int .i64 x0) := (S.at_ 0 rfl).cell 0
  have f6 : w2.cell? ⟨w.heap.size, 1, none⟩ = some (.int .i64 x1) := (S.at_ 0 rfl).cell 1
  have f7 : w2.cell? ⟨w.heap.size, 2, none⟩ = some (.int .i64 x2) := (S.at_ 0 rfl).cell 2
  have f8 : w2.cell? ⟨w.heap.size, 3, none⟩ = some (.int .i64 x3) := (S.at_ 0 rfl).cell 3
  have f9 : w2.cell? ⟨w.heap.size, 4, none⟩ = some (.int .i64 x4) := (S.at_ 0 rfl).cell 4
  cases hok : valueOkB ⟨x0, x1, x2, x3, x4⟩
  case false =>
    have HV := Lib.hid (show valueRowM ⟨x0, x1, x2, x3, x4⟩ = [] by unfold valueRowM; rw [hok]; rfl)
    have H := Lib.hid ((has_lit w2 [] (by simp)).up c.size)
    have C := Lib.hid (c.alloc c.size (.cells #[] 2))
    clear S c hok
    go_wp2
    go_ret
    exact ⟨_, _, _, rfl, by rw [HV.out]; exact H.out, C.out⟩
  case true =>
    have HV := Lib.hid (show valueRowM ⟨x0, x1, x2, x3, x4⟩ = [7, x0, x1, x2, x3, x4] by unfold valueRowM; rw [if_pos hok]; rfl)
    have H := Lib.hid ((has_lit w2 [7, x0, x1, x2, x3, x4] (by simp)).up c.size)
    have C := Lib.hid (c.alloc c.size (.cells #[.int .i64 7, .int .i64 x0, .int .i64 x1, .int .i64 x2, .int .i64 x3, .int .i64 x4] 2))
    clear S c hok
    go_wp2
    go_ret
    exact ⟨_, _, _, rfl, by rw [HV.out]; exact H.out, C.out⟩

def oneRow (k x lo hi : Int) : List Int := if inB x lo hi = true then [k, x] else []
set_option maxHeartbeats 3200000 in
theorem sOne_any (k x lo hi : Int) (w : World) :
    Calls Try.prog 33 #[.int .i64 k, .int .i64 x, .int .i64 lo, .int .i64 hi] w fun e w' => ∃ (A : Option Addr) (n c : Nat), e = .returned (.slice A n c) ∧ Has w' w.heap.size (rowCells (oneRow k x lo hi)) [.slice A n c] ∧ Below w.heap.size w w' := by
  by_cases h : lo ≤ x ∧ x ≤ hi
  · have HQ := Lib.hid h
    have HV := Lib.hid (show oneRow k x lo hi = [k, x] by unfold oneRow; rw [if_pos ((inB_iff _ _ _).2 h)])
    have H := Lib.hid (has_lit w [k, x] (by simp))
    have C := Lib.hid ((Below.refl w.heap.size w).alloc (Nat.le_refl _) (.cells #[.int .i64 k, .int .i64 x] 2))
    clear h
    go_enter Try.func33, Try.ntmps33
    go_wp2_with (first | (go_at_call 40; refine (in_yes x lo hi _ HQ.out).mono ?_; rintro e w' ⟨rfl, rfl⟩))
    go_ret
    exact ⟨_, _, _, rfl, by rw [HV.out]; exact H.out, C.out⟩
  · have HQ := Lib.hid h
    have HV := Lib.hid (show oneRow k x lo hi = [] by unfold oneRow; rw [if_neg (fun h9 => h ((inB_iff _ _ _).1 h9))])
    have H := Lib.hid (has_lit w [] (by simp))
    have C := Lib.hid ((Below.refl w.heap.size w).alloc (Nat.le_refl _) (.cells #[] 2))
    clear h
    go_enter Try.func33, Try.ntmps33
    go_wp2_with (first | (go_at_call 40; refine (in_no x lo hi _ HQ.out).mono ?_; rintro e w' ⟨rfl, rfl⟩))
    go_ret
    exact ⟨_, _, _, rfl, by rw [HV.out]; exact H.out, C.out⟩
theorem schedB_in (x : Int) : schedB x = inB x 2 3 := by rw [Bool.eq_iff_iff, schedB_iff, inB_iff]
theorem pollRow_one (x : Int) : pollRowM x = oneRow 8 x 2 3 := by unfold pollRowM oneRow; rw [schedB_in]

theorem sFetchRow_any (x : Int) (w : World) :
    Calls Try.prog 18 #[.int .i64 x] w fun e w' => ∃ (A : Option Addr) (n c : Nat), e = .returned (.slice A n c) ∧ Has w' w.heap.size (rowCells (fetchRowM x)) [.slice A n c] ∧ Below w.heap.size w w' := by
  go_enter Try.func18, Try.ntmps18
  go_wp2_with (first | (go_at_call 33; refine (sOne_any 3 x 1 2001 w).mono ?_; rintro e w' ⟨A, n, c, rfl, o, b⟩))
  go_ret
  exact ⟨_, _, _, rfl, o, b⟩
theorem sTrimRow_any (x : Int) (w : World) :
    Calls Try.prog 20 #[.int .i64 x] w fun e w' => ∃ (A : Option Addr) (n c : Nat), e = .returned (.slice A n c) ∧ Has w' w.heap.size (rowCells (trimRowM x)) [.slice A n c] ∧ Below w.heap.size w w' := by
  go_enter Try.func20, Try.ntmps20
  go_wp2_with (first | (go_at_call 33; refine (sOne_any 5 x 1 2000 w).mono ?_; rintro e w' ⟨A, n, c, rfl, o, b⟩))
  go_ret
  exact ⟨_, _, _, rfl, o, b⟩
end Go.Proofs.Ytmalpkbdaghemaa
