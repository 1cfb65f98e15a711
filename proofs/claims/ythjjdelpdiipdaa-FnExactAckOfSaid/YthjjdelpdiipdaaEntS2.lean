/-
  Chapter 7: askers, entries, rows of operations, of the model (by program, wip/gen/genent2.py).
-/
import Derived.Test.YthjjdelpdiipdaaEntS1
import Derived.Test.YthjjdelpdiipdaaEntL
import Derived.RegionTactic
import Derived.BigQuiet
namespace Go.Proofs.Ythjjdelpdiipdaa
set_option maxRecDepth 100000
open Go.RowKit

theorem sAsker_any (x : Int) (w : World) : Calls Try.prog 43 #[.int .i64 x] w fun e w' => e = .returned (.bool (askB x)) ∧ Below w.heap.size w w' := by
  by_cases h : 2 ≤ x ∧ x ≤ 5
  · refine (AskerOk_yes x w h).mono ?_
    rintro e w' ⟨rfl, rfl⟩
    exact ⟨ret_bool (by simp [askB, inB]; omega), Below.refl _ _⟩
  · refine (AskerOk_no x w h).mono ?_
    rintro e w' ⟨rfl, rfl⟩
    exact ⟨ret_bool (by simp [askB, inB]; omega), Below.refl _ _⟩

set_option maxHeartbeats 6400000 in
theorem sEntryOk_any (x0 x1 x2 x3 x4 x5 x6 x7 x8 : Int) (w : World) :
    Calls Try.prog 14 #[.agg #[.int .i64 x0, .int .i64 x1, .int .i64 x2, .int .i64 x3, .int .i64 x4, .int .i64 x5, .int .i64 x6, .int .i64 x7, .int .i64 x8]] w fun e w' => e = .returned (.bool (entB ⟨x0, x1, x2, x3, x4, x5, x6, x7, x8⟩)) ∧ Below w.heap.size w w' := by
  have C := Lib.hid ((Below.refl w.heap.size w).alloc (Nat.le_refl _) (.cells #[.int .i64 x0, .int .i64 x1, .int .i64 x2, .int .i64 x3, .int .i64 x4, .int .i64 x5, .int .i64 x6, .int .i64 x7, .int .i64 x8] 31))
  by_cases c0 : 1 ≤ x0 ∧ x0 ≤ 2000
  · have C0 := Lib.hid c0
    by_cases c1 : 0 ≤ x1 ∧ x1 ≤ 1000000
    · have C1 := Lib.hid c1
      by_cases c2 : 2 ≤ x2 ∧ x2 ≤ 5
      · have C2 := Lib.hid c2
        by_cases c3 : 1 ≤ x3 ∧ x3 ≤ 2000
        · have C3 := Lib.hid c3
          have HV := Lib.hid (show opB ⟨x4, x5, x6, x7, x8⟩ = entB ⟨x0, x1, x2, x3, x4, x5, x6, x7, x8⟩ by simp [entB, askB, inB, EntM.op, c0.1, c0.2, c1.1, c1.2, c2.1, c2.2, c3.1, c3.2])
          clear c0 c1 c2 c3
          go_enter Try.func14, Try.ntmps14
          go_wp2_with (first
            | (go_at_call 41; refine (l7Index_yes x0 _ C0.out).mono ?_; rintro e w' ⟨rfl, rfl⟩)
            | (go_at_call 42; refine (TimeOk_yes x1 _ C1.out).mono ?_; rintro e w' ⟨rfl, rfl⟩)
            | (go_at_call 43; refine (AskerOk_yes x2 _ C2.out).mono ?_; rintro e w' ⟨rfl, rfl⟩)
            | (go_at_call 44; refine (l7Seq_yes x3 _ C3.out).mono ?_; rintro e w' ⟨rfl, rfl⟩)
            | (go_at_call 45; refine (sOpOk_any x4 x5 x6 x7 x8 _).mono ?_; rintro e w' ⟨rfl, b⟩))
          have CC := Lib.hid (C.out.trans (b.mono C.out.size))
          clear b
          go_ret
          exact ⟨ret_bool HV.out, CC.out⟩
        · have C3 := Lib.hid c3
          have HV := Lib.hid (show false = entB ⟨x0, x1, x2, x3, x4, x5, x6, x7, x8⟩ by simp [entB, askB, inB]; omega)
          clear c0 c1 c2 c3
          go_enter Try.func14, Try.ntmps14
          go_wp2_with (first
            | (go_at_call 41; refine (l7Index_yes x0 _ C0.out).mono ?_; rintro e w' ⟨rfl, rfl⟩)
            | (go_at_call 42; refine (TimeOk_yes x1 _ C1.out).mono ?_; rintro e w' ⟨rfl, rfl⟩)
            | (go_at_call 43; refine (AskerOk_yes x2 _ C2.out).mono ?_; rintro e w' ⟨rfl, rfl⟩)
            | (go_at_call 44; refine (l7Seq_no x3 _ C3.out).mono ?_; rintro e w' ⟨rfl, rfl⟩))
          go_ret
          exact ⟨ret_bool HV.out, C.out⟩
      · have C2 := Lib.hid c2
        have HV := Lib.hid (show false = entB ⟨x0, x1, x2, x3, x4, x5, x6, x7, x8⟩ by simp [entB, askB, inB]; omega)
        clear c0 c1 c2
        go_enter Try.func14, Try.ntmps14
        go_wp2_with (first
          | (go_at_call 41; refine (l7Index_yes x0 _ C0.out).mono ?_; rintro e w' ⟨rfl, rfl⟩)
          | (go_at_call 42; refine (TimeOk_yes x1 _ C1.out).mono ?_; rintro e w' ⟨rfl, rfl⟩)
          | (go_at_call 43; refine (AskerOk_no x2 _ C2.out).mono ?_; rintro e w' ⟨rfl, rfl⟩))
        go_ret
        exact ⟨ret_bool HV.out, C.out⟩
    · have C1 := Lib.hid c1
      have HV := Lib.hid (show false = entB ⟨x0, x1, x2, x3, x4, x5, x6, x7, x8⟩ by simp [entB, askB, inB]; omega)
      clear c0 c1
      go_enter Try.func14, Try.ntmps14
      go_wp2_with (first
        | (go_at_call 41; refine (l7Index_yes x0 _ C0.out).mono ?_; rintro e w' ⟨rfl, rfl⟩)
        | (go_at_call 42; refine (TimeOk_no x1 _ C1.out).mono ?_; rintro e w' ⟨rfl, rfl⟩))
      go_ret
      exact ⟨ret_bool HV.out, C.out⟩
  · have C0 := Lib.hid c0
    have HV := Lib.hid (show false = entB ⟨x0, x1, x2, x3, x4, x5, x6, x7, x8⟩ by simp [entB, askB, inB]; omega)
    clear c0
    go_enter Try.func14, Try.ntmps14
    go_wp2_with (first
      | (go_at_call 41; refine (l7Index_no x0 _ C0.out).mono ?_; rintro e w' ⟨rfl, rfl⟩))
    go_ret
    exact ⟨ret_bool HV.out, C.out⟩

end Go.Proofs.Ythjjdelpdiipdaa
