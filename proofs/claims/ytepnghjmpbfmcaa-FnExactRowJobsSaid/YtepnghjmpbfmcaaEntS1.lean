/-
  Chapter 7: the small functions of the model (by program, wip/gen/genent2.py).
-/
import Derived.Test.YtepnghjmpbfmcaaEntM
import Derived.RegionTactic
import Derived.BigQuiet
namespace Go.Proofs.Ytepnghjmpbfmcaa
set_option maxRecDepth 100000
open Go.RowKit

theorem in_yes (x a b : Int) (w : World) (h : a ≤ x ∧ x ≤ b) : Calls Try.prog 55 #[.int .i64 x, .int .i64 a, .int .i64 b] w fun e w' => e = .returned (.bool true) ∧ w = w' := by
  have := in_any x a b w
  rw [decide_eq_true h.1, decide_eq_true h.2] at this
  exact this
theorem in_no (x a b : Int) (w : World) (h : ¬ (a ≤ x ∧ x ≤ b)) : Calls Try.prog 55 #[.int .i64 x, .int .i64 a, .int .i64 b] w fun e w' => e = .returned (.bool false) ∧ w = w' := by
  have := in_any x a b w
  rw [show (decide (a ≤ x) && decide (x ≤ b)) = false by simp; omega] at this
  exact this

theorem l7Id_yes (x : Int) (w : World) (h : 1 ≤ x ∧ x ≤ 20) : Calls Try.prog 65 #[.int .i64 x] w fun e w' => e = .returned (.bool true) ∧ w = w' := by
  have H := Lib.hid h
  clear h
  go_enter Try.func65, Try.ntmps65
  go_wp2_with (first | (go_at_call 55; refine (in_yes x 1 20 _ H.out).mono ?_; rintro e w' ⟨rfl, rfl⟩))
  go_ret
  exact ⟨rfl, rfl⟩
theorem l7Id_no (x : Int) (w : World) (h : ¬ (1 ≤ x ∧ x ≤ 20)) : Calls Try.prog 65 #[.int .i64 x] w fun e w' => e = .returned (.bool false) ∧ w = w' := by
  have H := Lib.hid h
  clear h
  go_enter Try.func65, Try.ntmps65
  go_wp2_with (first | (go_at_call 55; refine (in_no x 1 20 _ H.out).mono ?_; rintro e w' ⟨rfl, rfl⟩))
  go_ret
  exact ⟨rfl, rfl⟩
theorem TimeOk_yes (x : Int) (w : World) (h : 0 ≤ x ∧ x ≤ 1000000) : Calls Try.prog 56 #[.int .i64 x] w fun e w' => e = .returned (.bool true) ∧ w = w' := by
  have H := Lib.hid h
  clear h
  go_enter Try.func56, Try.ntmps56
  go_wp2_with (first | (go_at_call 55; refine (in_yes x 0 1000000 _ H.out).mono ?_; rintro e w' ⟨rfl, rfl⟩))
  go_ret
  exact ⟨rfl, rfl⟩
theorem TimeOk_no (x : Int) (w : World) (h : ¬ (0 ≤ x ∧ x ≤ 1000000)) : Calls Try.prog 56 #[.int .i64 x] w fun e w' => e = .returned (.bool false) ∧ w = w' := by
  have H := Lib.hid h
  clear h
  go_enter Try.func56, Try.ntmps56
  go_wp2_with (first | (go_at_call 55; refine (in_no x 0 1000000 _ H.out).mono ?_; rintro e w' ⟨rfl, rfl⟩))
  go_ret
  exact ⟨rfl, rfl⟩
end Go.Proofs.Ytepnghjmpbfmcaa
