/-
  Chapter 7: askers, entries, rows of operations, of the model (by program, wip/gen/genent2.py).
-/
import Derived.Test.YtafbjmhjjbfaeaaEntS1
import Derived.Test.YtafbjmhjjbfaeaaEntL
import Derived.RegionTactic
import Derived.BigQuiet
namespace Go.Proofs.Ytafbjmhjjbfaeaa
set_option maxRecDepth 100000
open Go.RowKit

theorem sAsker_any (x : Int) (w : World) : Calls Try.prog 74 #[.int .i64 x] w fun e w' => e = .returned (.bool (askB x)) ∧ Below w.heap.size w w' := by
  by_cases h : 2 ≤ x ∧ x ≤ 5
  · refine (AskerOk_yes x w h).mono ?_
    rintro e w' ⟨rfl, rfl⟩
    exact ⟨ret_bool (by simp [askB, inB]; omega), Below.refl _ _⟩
  · refine (AskerOk_no x w h).mono ?_
    rintro e w' ⟨rfl, rfl⟩
    exact ⟨ret_bool (by simp [askB, inB]; omega), Below.refl _ _⟩

set_option maxHeartbeats 6400000 in
theorem sEntryOk_any (x0 x1 x2 x3 x4 x5 x6 x7 x8 : Int) (w : World) :
    Calls Try.prog 58 #[.agg #[.int .i64 x0, .int .i64 x1, .int .i64 x2, .int .i64 x3, .int .i64 x4, .int .i64 x5, .int .i64 x6, .int .i64 x7, .int .i64 x8]] w fun e w' => e = .returned (.bool (entB ⟨x0, x1, x2, x3, x4, x5, x6, x7, x8⟩)) ∧ Below w.heap.size w w' := by
  have C := Lib.hid ((Below.refl w.heap.size w).alloc (Nat.le_refl _) (.cells #[.int .i64 x0, .int .i64 x1, .int .i64 x2, .int .i64 x3, .int .i64 x4, .int .i64 x5, .int .i64 x6, .int .i64 x7, .int .i64 x8] 72))
  by_cases c0 : 1 ≤ x0 ∧ x0 ≤ 2000
  · have C0 := Lib.hid c0
    by_cases c1 : 0 ≤ x1 ∧ x1 ≤ 1000000
    · have C1 := Lib.hid c1
      by_cases c2 : 2 ≤ x2 ∧ x2 ≤ 5
      · have C2 := Lib.hid c2
        by_cases c3 : 1 ≤ x3 ∧ x3 ≤ 2000
        · have C3 := Lib.hid c3
          have HV := Lib.hid (show opB ⟨x4, x5, x6, x7, x8⟩ = entB ⟨x0, x1, x2, x3, x4, x5, x6, x7, x8⟩ by simp [entB, askB, inB, EntM.op, c0.1, c0.2, c1.1, c1.2, c2.1, c2.2, c3.1, c3.2])
          clear c0 c1 c2 c3
          go_enter Try.func58, Try.ntmps58
          go_wp2_with (first
            | (go_at_call 73; refine (l7Index_yes x0 _ C0.out).mono ?_; rintro e w' ⟨rfl, rfl⟩)
            | (go_at_call 63; refine (TimeOk_yes x1 _ C1.out).mono ?_; rintro e w' ⟨rfl, rfl⟩)
            | (go_at_call 74; refine (AskerOk_yes x2 _ C2.out).mono ?_; rintro e w' ⟨rfl, rfl⟩)
            | (go_at_call 75; refine (l7Seq_yes x3 _ C3.out).mono ?_; rintro e w' ⟨rfl, rfl⟩)
            | (go_at_call 76; refine (sOpOk_any x4 x5 x6 x7 x8 _).mono ?_; rintro e w' ⟨rfl, b⟩))
          have CC := Lib.hid (C.out.trans (b.mono C.out.size))
          clear b
          go_ret
          exact ⟨ret_bool HV.out, CC.out⟩
        · have C3 := Lib.hid c3
          have HV := Lib.hid (show false = entB ⟨x0, x1, x2, x3, x4, x5, x6, x7, x8⟩ by simp [entB, askB, inB]; omega)
          clear c0 c1 c2 c3
          go_enter Try.func58, Try.ntmps58
          go_wp2_with (first
            | (go_at_call 73; refine (l7Index_yes x0 _ C0.out).mono ?_; rintro e w' ⟨rfl, rfl⟩)
            | (go_at_call 63; refine (TimeOk_yes x1 _ C1.out).mono ?_; rintro e w' ⟨rfl, rfl⟩)
            | (go_at_call 74; refine (AskerOk_yes x2 _ C2.out).mono ?_; rintro e w' ⟨rfl, rfl⟩)
            | (go_at_call 75; refine (l7Seq_no x3 _ C3.out).mono ?_; rintro e w' ⟨rfl, rfl⟩))
          go_ret
          exact ⟨ret_bool HV.out, C.out⟩
      · have C2 := Lib.hid c2
        have HV := Lib.hid (show false = entB ⟨x0, x1, x2, x3, x4, x5, x6, x7, x8⟩ by simp [entB, askB, inB]; omega)
        clear c0 c1 c2
        go_enter Try.func58, Try.ntmps58
        go_wp2_with (first
          | (go_at_call 73; refine (l7Index_yes x0 _ C0.out).mono ?_; rintro e w' ⟨rfl, rfl⟩)
          | (go_at_call 63; refine (TimeOk_yes x1 _ C1.out).mono ?_; rintro e w' ⟨rfl, rfl⟩)
          | (go_at_call 74; refine (AskerOk_no x2 _ C2.out).mono ?_; rintro e w' ⟨rfl, rfl⟩))
        go_ret
        exact ⟨ret_bool HV.out, C.out⟩
    · have C1 := Lib.hid c1
      have HV := Lib.hid (show false = entB ⟨x0, x1, x2, x3, x4, x5, x6, x7, x8⟩ by simp [entB, askB, inB]; omega)
      clear c0 c1
      go_enter Try.func58, Try.ntmps58
      go_wp2_with (first
        | (go_at_call 73; refine (l7Index_yes x0 _ C0.out).mono ?_; rintro e w' ⟨rfl, rfl⟩)
        | (go_at_call 63; refine (TimeOk_no x1 _ C1.out).mono ?_; rintro e w' ⟨rfl, rfl⟩))
      go_ret
      exact ⟨ret_bool HV.out, C.out⟩
  · have C0 := Lib.hid c0
    have HV := Lib.hid (show false = entB ⟨x0, x1, x2, x3, x4, x5, x6, x7, x8⟩ by simp [entB, askB, inB]; omega)
    clear c0
    go_enter Try.func58, Try.ntmps58
    go_wp2_with (first
      | (go_at_call 73; refine (l7Index_no x0 _ C0.out).mono ?_; rintro e w' ⟨rfl, rfl⟩))
    go_ret
    exact ⟨ret_bool HV.out, C.out⟩

set_option maxHeartbeats 3200000 in
theorem sOpRow_any (x0 x1 x2 x3 x4 : Int) (w : World) :
    Calls Try.prog 62 #[.agg #[.int .i64 x0, .int .i64 x1, .int .i64 x2, .int .i64 x3, .int .i64 x4]] w fun e w' => ∃ (A : Option Addr) (n c : Nat), e = .returned (.slice A n c) ∧ Has w' w.heap.size (rowCells (opRowM ⟨x0, x1, x2, x3, x4⟩)) [.slice A n c] ∧ Below w.heap.size w w' := by
  have S := Sep.nil w w.heap.size
  have c := Below.refl w.heap.size w
  replace S := S.boxAt c.size (w.heap.size) rfl #[.int .i64 x0, .int .i64 x1, .int .i64 x2, .int .i64 x3, .int .i64 x4] 70
  replace c := c.alloc c.size (.cells #[.int .i64 x0, .int .i64 x1, .int .i64 x2, .int .i64 x3, .int .i64 x4] 70)
  go_enter Try.func62, Try.ntmps62
  have f0 : (w.alloc (.cells #[.int .i64 x0, .int .i64 x1, .int .i64 x2, .int .i64 x3, .int .i64 x4] 70)).cell? ⟨w.heap.size, 0, none⟩ = some (.int .i64 x0) := (S.at_ 0 rfl).cell 0
  have f1 : (w.alloc (.cells #[.int .i64 x0, .int .i64 x1, .int .i64 x2, .int .i64 x3, .int .i64 x4] 70)).cell? ⟨w.heap.size, 1, none⟩ = some (.int .i64 x1) := (S.at_ 0 rfl).cell 1
  have f2 : (w.alloc (.cells #[.int .i64 x0, .int .i64 x1, .int .i64 x2, .int .i64 x3, .int .i64 x4] 70)).cell? ⟨w.heap.size, 2, none⟩ = some (.int .i64 x2) := (S.at_ 0 rfl).cell 2
  have f3 : (w.alloc (.cells #[.int .i64 x0, .int .i64 x1, .int .i64 x2, .int .i64 x3, .int .i64 x4] 70)).cell? ⟨w.heap.size, 3, none⟩ = some (.int .i64 x3) := (S.at_ 0 rfl).cell 3
  have f4 : (w.alloc (.cells #[.int .i64 x0, .int .i64 x1, .int .i64 x2, .int .i64 x3, .int .i64 x4] 70)).cell? ⟨w.heap.size, 4, none⟩ = some (.int .i64 x4) := (S.at_ 0 rfl).cell 4
  go_wp2_with fail
  generalize w.alloc (.cells #[.int .i64 x0, .int .i64 x1, .int .i64 x2, .int .i64 x3, .int .i64 x4] 70) = w1 at *
  refine (sOpOk_any x0 x1 x2 x3 x4 _).mono ?_
  rintro e w2 ⟨rfl, b⟩
  replace c := c.trans (b.mono c.size)
  replace S := S.keep b
  clear b f0 f1 f2 f3 f4
  have f5 : w2.cell? ⟨w.heap.size, 0, none⟩ = some (.int .i64 x0) := (S.at_ 0 rfl).cell 0
  have f6 : w2.cell? ⟨w.heap.size, 1, none⟩ = some (.int .i64 x1) := (S.at_ 0 rfl).cell 1
  have f7 : w2.cell? ⟨w.heap.size, 2, none⟩ = some (.int .i64 x2) := (S.at_ 0 rfl).cell 2
  have f8 : w2.cell? ⟨w.heap.size, 3, none⟩ = some (.int .i64 x3) := (S.at_ 0 rfl).cell 3
  have f9 : w2.cell? ⟨w.heap.size, 4, none⟩ = some (.int .i64 x4) := (S.at_ 0 rfl).cell 4
  cases hok : opB ⟨x0, x1, x2, x3, x4⟩
  case false =>
    have HV := Lib.hid (show opRowM ⟨x0, x1, x2, x3, x4⟩ = [] by unfold opRowM; rw [hok]; rfl)
    have H := Lib.hid ((has_lit w2 [] (by decide)).up c.size)
    have C := Lib.hid (c.alloc c.size (.cells #[] 2))
    clear S c hok
    go_wp2
    go_ret
    exact ⟨_, _, _, rfl, by rw [HV.out]; exact H.out, C.out⟩
  case true =>
    have HV := Lib.hid (show opRowM ⟨x0, x1, x2, x3, x4⟩ = [x0, x1, x2, x3, x4] by unfold opRowM; rw [if_pos hok]; rfl)
    have H := Lib.hid ((has_lit w2 [x0, x1, x2, x3, x4] (by simp)).up c.size)
    have C := Lib.hid (c.alloc c.size (.cells #[.int .i64 x0, .int .i64 x1, .int .i64 x2, .int .i64 x3, .int .i64 x4] 2))
    clear S c hok
    go_wp2
    go_ret
    exact ⟨_, _, _, rfl, by rw [HV.out]; exact H.out, C.out⟩

end Go.Proofs.Ytafbjmhjjbfaeaa
