/-
  Chapter 7: entries and their rows, of the program (by program, wip/gen/genenti2.py).
-/
import Derived.Test.YtepnghjmpbfmcaaEntI2
import Derived.Test.YtepnghjmpbfmcaaMove
import Derived.RegionTactic
import Derived.BigQuiet
import Derived.Laws.EntriesVeiled
namespace Go.Proofs.Ytepnghjmpbfmcaa
set_option maxRecDepth 100000
open Go.RowKit

set_option maxHeartbeats 6400000 in
theorem iEntryOk_any (x0 x1 x2 x3 x4 x5 x6 x7 x8 : Int) (w : World) :
    Calls Try.prog 70 #[.agg #[.int .i64 x0, .int .i64 x1, .int .i64 x2, .int .i64 x3, .int .i64 x4, .int .i64 x5, .int .i64 x6, .int .i64 x7, .int .i64 x8]] w fun e w' => e = .returned (.bool (entB ⟨x0, x1, x2, x3, x4, x5, x6, x7, x8⟩)) ∧ Below w.heap.size w w' := by
  have C := Lib.hid ((Below.refl w.heap.size w).alloc (Nat.le_refl _) (.cells #[.int .i64 x0, .int .i64 x1, .int .i64 x2, .int .i64 x3, .int .i64 x4, .int .i64 x5, .int .i64 x6, .int .i64 x7, .int .i64 x8] 83))
  by_cases c0 : 1 ≤ x0 ∧ x0 ≤ 2000
  · have C0 := Lib.hid c0
    by_cases c1 : 0 ≤ x1 ∧ x1 ≤ 1000000
    · have C1 := Lib.hid c1
      by_cases c2 : 2 ≤ x2 ∧ x2 ≤ 5
      · have C2 := Lib.hid c2
        by_cases c3 : 1 ≤ x3 ∧ x3 ≤ 2000
        · have C3 := Lib.hid c3
          have HV := Lib.hid (show opB ⟨x4, x5, x6, x7, x8⟩ = entB ⟨x0, x1, x2, x3, x4, x5, x6, x7, x8⟩ by simp [entB, askB, inB, EntM.op, c0.1, c0.2, c1.1, c1.2, c2.1, c2.2, c3.1, c3.2])
          clear c0 c1 c2 c3
          go_enter Try.func70, Try.ntmps70
          go_wp2_with (first
            | (go_at_call 73; refine (i_isIndex_yes x0 _ C0.out).mono ?_; rintro e w' ⟨rfl, rfl⟩)
            | (go_at_call 74; refine (i_TimeOk_yes x1 _ C1.out).mono ?_; rintro e w' ⟨rfl, rfl⟩)
            | (go_at_call 75; refine (i_AskerOk_yes x2 _ C2.out).mono ?_; rintro e w' ⟨rfl, rfl⟩)
            | (go_at_call 76; refine (i_isSeq_yes x3 _ C3.out).mono ?_; rintro e w' ⟨rfl, rfl⟩)
            | (go_at_call 77; refine (iFits_any x4 x5 x6 x7 x8 _).mono ?_; rintro e w' ⟨rfl, b⟩))
          have CC := Lib.hid (C.out.trans (b.mono C.out.size))
          clear b
          go_ret
          exact ⟨ret_bool HV.out, CC.out⟩
        · have C3 := Lib.hid c3
          have HV := Lib.hid (show false = entB ⟨x0, x1, x2, x3, x4, x5, x6, x7, x8⟩ by simp [entB, askB, inB]; omega)
          clear c0 c1 c2 c3
          go_enter Try.func70, Try.ntmps70
          go_wp2_with (first
            | (go_at_call 73; refine (i_isIndex_yes x0 _ C0.out).mono ?_; rintro e w' ⟨rfl, rfl⟩)
            | (go_at_call 74; refine (i_TimeOk_yes x1 _ C1.out).mono ?_; rintro e w' ⟨rfl, rfl⟩)
            | (go_at_call 75; refine (i_AskerOk_yes x2 _ C2.out).mono ?_; rintro e w' ⟨rfl, rfl⟩)
            | (go_at_call 76; refine (i_isSeq_no x3 _ C3.out).mono ?_; rintro e w' ⟨rfl, rfl⟩))
          go_ret
          exact ⟨ret_bool HV.out, C.out⟩
      · have C2 := Lib.hid c2
        have HV := Lib.hid (show false = entB ⟨x0, x1, x2, x3, x4, x5, x6, x7, x8⟩ by simp [entB, askB, inB]; omega)
        clear c0 c1 c2
        go_enter Try.func70, Try.ntmps70
        go_wp2_with (first
          | (go_at_call 73; refine (i_isIndex_yes x0 _ C0.out).mono ?_; rintro e w' ⟨rfl, rfl⟩)
          | (go_at_call 74; refine (i_TimeOk_yes x1 _ C1.out).mono ?_; rintro e w' ⟨rfl, rfl⟩)
          | (go_at_call 75; refine (i_AskerOk_no x2 _ C2.out).mono ?_; rintro e w' ⟨rfl, rfl⟩))
        go_ret
        exact ⟨ret_bool HV.out, C.out⟩
    · have C1 := Lib.hid c1
      have HV := Lib.hid (show false = entB ⟨x0, x1, x2, x3, x4, x5, x6, x7, x8⟩ by simp [entB, askB, inB]; omega)
      clear c0 c1
      go_enter Try.func70, Try.ntmps70
      go_wp2_with (first
        | (go_at_call 73; refine (i_isIndex_yes x0 _ C0.out).mono ?_; rintro e w' ⟨rfl, rfl⟩)
        | (go_at_call 74; refine (i_TimeOk_no x1 _ C1.out).mono ?_; rintro e w' ⟨rfl, rfl⟩))
      go_ret
      exact ⟨ret_bool HV.out, C.out⟩
  · have C0 := Lib.hid c0
    have HV := Lib.hid (show false = entB ⟨x0, x1, x2, x3, x4, x5, x6, x7, x8⟩ by simp [entB, askB, inB]; omega)
    clear c0
    go_enter Try.func70, Try.ntmps70
    go_wp2_with (first
      | (go_at_call 73; refine (i_isIndex_no x0 _ C0.out).mono ?_; rintro e w' ⟨rfl, rfl⟩))
    go_ret
    exact ⟨ret_bool HV.out, C.out⟩

set_option maxHeartbeats 3200000 in
theorem iFollows_any (x0 x1 x2 x3 x4 x5 x6 x7 x8 y0 y1 y2 y3 y4 y5 y6 y7 y8 : Int) (hy : 0 ≤ y0 ∧ y0 ≤ 1000000) (w : World) :
    Calls Try.prog 71 #[.agg #[.int .i64 y0, .int .i64 y1, .int .i64 y2, .int .i64 y3, .int .i64 y4, .int .i64 y5, .int .i64 y6, .int .i64 y7, .int .i64 y8], .agg #[.int .i64 x0, .int .i64 x1, .int .i64 x2, .int .i64 x3, .int .i64 x4, .int .i64 x5, .int .i64 x6, .int .i64 x7, .int .i64 x8]] w fun e w' => e = .returned (.bool (decide (x0 = y0 + 1) && decide (y1 ≤ x1))) ∧ Below w.heap.size w w' := by
  have C := Lib.hid (((Below.refl w.heap.size w).alloc (Nat.le_refl _) (.cells #[.int .i64 y0, .int .i64 y1, .int .i64 y2, .int .i64 y3, .int .i64 y4, .int .i64 y5, .int .i64 y6, .int .i64 y7, .int .i64 y8] 83)).alloc (by simp) (.cells #[.int .i64 x0, .int .i64 x1, .int .i64 x2, .int .i64 x3, .int .i64 x4, .int .i64 x5, .int .i64 x6, .int .i64 x7, .int .i64 x8] 83))
  have ew : IntKind.i64.wrap (y0 + 1) = y0 + 1 := by rw [IntKind.wrap_i64]; omega
  clear hy
  by_cases q1 : x0 = y0 + 1
  case neg =>
    have e1 : (x0 == y0 + 1) = false := by simpa using q1
    have HV := Lib.hid (show false = (decide (x0 = y0 + 1) && decide (y1 ≤ x1)) by rw [decide_eq_false q1]; rfl)
    go_enter Try.func71, Try.ntmps71
    go_wp2
    go_ret
    exact ⟨ret_bool HV.out, C.out⟩
  case pos =>
    subst q1
    have e1 : (y0 + 1 == y0 + 1) = true := by simp
    have HV := Lib.hid (show decide (y1 ≤ x1) = (decide (y0 + 1 = y0 + 1) && decide (y1 ≤ x1)) by simp)
    go_enter Try.func71, Try.ntmps71
    go_wp2
    go_ret
    exact ⟨ret_bool (by first | exact HV.out | (rw [← HV.out])), C.out⟩
set_option maxHeartbeats 6400000 in
theorem iEntryRow_any (x0 x1 x2 x3 x4 x5 x6 x7 x8 : Int) (w : World) :
    Calls Try.prog 117 #[.agg #[.int .i64 x0, .int .i64 x1, .int .i64 x2, .int .i64 x3, .int .i64 x4, .int .i64 x5, .int .i64 x6, .int .i64 x7, .int .i64 x8]] w fun e w' => ∃ (A : Option Addr) (n c : Nat), e = .returned (.slice A n c) ∧ Has w' w.heap.size (rowCells (entRowM ⟨x0, x1, x2, x3, x4, x5, x6, x7, x8⟩)) [.slice A n c] ∧ Below w.heap.size w w' := by
  have S := Sep.nil w w.heap.size
  have c := Below.refl w.heap.size w
  replace S := S.boxAt c.size (w.heap.size) rfl #[.int .i64 x0, .int .i64 x1, .int .i64 x2, .int .i64 x3, .int .i64 x4, .int .i64 x5, .int .i64 x6, .int .i64 x7, .int .i64 x8] 83
  replace c := c.alloc c.size (.cells #[.int .i64 x0, .int .i64 x1, .int .i64 x2, .int .i64 x3, .int .i64 x4, .int .i64 x5, .int .i64 x6, .int .i64 x7, .int .i64 x8] 83)
  go_enter Try.func117, Try.ntmps117
  have f0 : (w.alloc (.cells #[.int .i64 x0, .int .i64 x1, .int .i64 x2, .int .i64 x3, .int .i64 x4, .int .i64 x5, .int .i64 x6, .int .i64 x7, .int .i64 x8] 83)).cell? ⟨w.heap.size, 0, none⟩ = some (.int .i64 x0) := (S.at_ 0 rfl).cell 0
  have f1 : (w.alloc (.cells #[.int .i64 x0, .int .i64 x1, .int .i64 x2, .int .i64 x3, .int .i64 x4, .int .i64 x5, .int .i64 x6, .int .i64 x7, .int .i64 x8] 83)).cell? ⟨w.heap.size, 1, none⟩ = some (.int .i64 x1) := (S.at_ 0 rfl).cell 1
  have f2 : (w.alloc (.cells #[.int .i64 x0, .int .i64 x1, .int .i64 x2, .int .i64 x3, .int .i64 x4, .int .i64 x5, .int .i64 x6, .int .i64 x7, .int .i64 x8] 83)).cell? ⟨w.heap.size, 2, none⟩ = some (.int .i64 x2) := (S.at_ 0 rfl).cell 2
  have f3 : (w.alloc (.cells #[.int .i64 x0, .int .i64 x1, .int .i64 x2, .int .i64 x3, .int .i64 x4, .int .i64 x5, .int .i64 x6, .int .i64 x7, .int .i64 x8] 83)).cell? ⟨w.heap.size, 3, none⟩ = some (.int .i64 x3) := (S.at_ 0 rfl).cell 3
  have f4 : (w.alloc (.cells #[.int .i64 x0, .int .i64 x1, .int .i64 x2, .int .i64 x3, .int .i64 x4, .int .i64 x5, .int .i64 x6, .int .i64 x7, .int .i64 x8] 83)).cell? ⟨w.heap.size, 4, none⟩ = some (.int .i64 x4) := (S.at_ 0 rfl).cell 4
  have f5 : (w.alloc (.cells #[.int .i64 x0, .int .i64 x1, .int .i64 x2, .int .i64 x3, .int .i64 x4, .int .i64 x5, .int .i64 x6, .int .i64 x7, .int .i64 x8] 83)).cell? ⟨w.heap.size, 5, none⟩ = some (.int .i64 x5) := (S.at_ 0 rfl).cell 5
  have f6 : (w.alloc (.cells #[.int .i64 x0, .int .i64 x1, .int .i64 x2, .int .i64 x3, .int .i64 x4, .int .i64 x5, .int .i64 x6, .int .i64 x7, .int .i64 x8] 83)).cell? ⟨w.heap.size, 6, none⟩ = some (.int .i64 x6) := (S.at_ 0 rfl).cell 6
  have f7 : (w.alloc (.cells #[.int .i64 x0, .int .i64 x1, .int .i64 x2, .int .i64 x3, .int .i64 x4, .int .i64 x5, .int .i64 x6, .int .i64 x7, .int .i64 x8] 83)).cell? ⟨w.heap.size, 7, none⟩ = some (.int .i64 x7) := (S.at_ 0 rfl).cell 7
  have f8 : (w.alloc (.cells #[.int .i64 x0, .int .i64 x1, .int .i64 x2, .int .i64 x3, .int .i64 x4, .int .i64 x5, .int .i64 x6, .int .i64 x7, .int .i64 x8] 83)).cell? ⟨w.heap.size, 8, none⟩ = some (.int .i64 x8) := (S.at_ 0 rfl).cell 8
  go_wp2_with fail
  generalize w.alloc (.cells #[.int .i64 x0, .int .i64 x1, .int .i64 x2, .int .i64 x3, .int .i64 x4, .int .i64 x5, .int .i64 x6, .int .i64 x7, .int .i64 x8] 83) = w1 at *
  refine (iEntryOk_any x0 x1 x2 x3 x4 x5 x6 x7 x8 _).mono ?_
  rintro e w2 ⟨rfl, b⟩
  replace c := c.trans (b.mono c.size)
  replace S := S.keep b
  clear b f0 f1 f2 f3 f4 f5 f6 f7 f8
  cases hok : entB ⟨x0, x1, x2, x3, x4, x5, x6, x7, x8⟩
  case false =>
    have HV := Lib.hid (show entRowM ⟨x0, x1, x2, x3, x4, x5, x6, x7, x8⟩ = [] by unfold entRowM; rw [hok]; rfl)
    have C := Lib.hid c
    clear S c hok
    go_wp2
    go_ret
    exact ⟨_, _, _, rfl, by rw [HV.out]; exact has_nil_rowE _ _, C.out⟩
  case true =>
    have HV := Lib.hid (show entRowM ⟨x0, x1, x2, x3, x4, x5, x6, x7, x8⟩ = [x0, x1, x2, x3] ++ opNs ⟨x4, x5, x6, x7, x8⟩ by unfold entRowM; rw [if_pos hok]; rfl)
    have HR := Lib.hid (show (opNs ⟨x4, x5, x6, x7, x8⟩).length ≤ 5 by simp [opNs])
    clear hok
    go_wp2_with fail
    refine wp_region_L (fun v => v.cell? ⟨w.heap.size, 0, none⟩ = some (.int .i64 x0) ∧ v.cell? ⟨w.heap.size, 1, none⟩ = some (.int .i64 x1) ∧ v.cell? ⟨w.heap.size, 2, none⟩ = some (.int .i64 x2) ∧ v.cell? ⟨w.heap.size, 3, none⟩ = some (.int .i64 x3) ∧ v.cell? ⟨w.heap.size, 4, none⟩ = some (.int .i64 x4) ∧ v.cell? ⟨w.heap.size, 5, none⟩ = some (.int .i64 x5) ∧ v.cell? ⟨w.heap.size, 6, none⟩ = some (.int .i64 x6) ∧ v.cell? ⟨w.heap.size, 7, none⟩ = some (.int .i64 x7) ∧ v.cell? ⟨w.heap.size, 8, none⟩ = some (.int .i64 x8)) 13 (by kernel_rfl) ?_
    replace S := S.keep ((Below.refl _ _).drew)
    replace c := c.drew
    generalize w2.drew = w3 at *
    have HF : w3.cell? ⟨w.heap.size, 0, none⟩ = some (.int .i64 x0) ∧ w3.cell? ⟨w.heap.size, 1, none⟩ = some (.int .i64 x1) ∧ w3.cell? ⟨w.heap.size, 2, none⟩ = some (.int .i64 x2) ∧ w3.cell? ⟨w.heap.size, 3, none⟩ = some (.int .i64 x3) ∧ w3.cell? ⟨w.heap.size, 4, none⟩ = some (.int .i64 x4) ∧ w3.cell? ⟨w.heap.size, 5, none⟩ = some (.int .i64 x5) ∧ w3.cell? ⟨w.heap.size, 6, none⟩ = some (.int .i64 x6) ∧ w3.cell? ⟨w.heap.size, 7, none⟩ = some (.int .i64 x7) ∧ w3.cell? ⟨w.heap.size, 8, none⟩ = some (.int .i64 x8) := ⟨(S.at_ 0 rfl).cell 0, (S.at_ 0 rfl).cell 1, (S.at_ 0 rfl).cell 2, (S.at_ 0 rfl).cell 3, (S.at_ 0 rfl).cell 4, (S.at_ 0 rfl).cell 5, (S.at_ 0 rfl).cell 6, (S.at_ 0 rfl).cell 7, (S.at_ 0 rfl).cell 8⟩
    refine wpAnyL_take (i := 0) (v := ?_) rfl rfl (by kernel_rfl) (by kernel_rfl) (by kernel_rfl) (by kernel_rfl) (by kernel_rfl) (fun _ _ _ h => h) HF (Or.inl ⟨by rfl, ?_⟩) ?_
    rotate_left 1
    · (rintro v ⟨a0, a1, a2, a3, a4, a5, a6, a7, a8⟩; go_simp; try with_reducible rfl)
    try simp only [Act.put]
    refine wpAnyL_take (i := 1) (v := ?_) rfl rfl (by kernel_rfl) (by kernel_rfl) (by kernel_rfl) (by kernel_rfl) (by kernel_rfl) (fun _ _ _ h => h) HF (Or.inl ⟨by rfl, ?_⟩) ?_
    rotate_left 1
    · (rintro v ⟨a0, a1, a2, a3, a4, a5, a6, a7, a8⟩; go_simp; try with_reducible rfl)
    try simp only [Act.put]
    refine wpAnyL_take (i := 2) (v := ?_) rfl rfl (by kernel_rfl) (by kernel_rfl) (by kernel_rfl) (by kernel_rfl) (by kernel_rfl) (fun _ _ _ h => h) HF (Or.inl ⟨by rfl, ?_⟩) ?_
    rotate_left 1
    · (rintro v ⟨a0, a1, a2, a3, a4, a5, a6, a7, a8⟩; go_simp; try with_reducible rfl)
    try simp only [Act.put]
    refine wpAnyL_take (i := 3) (v := ?_) rfl rfl (by kernel_rfl) (by kernel_rfl) (by kernel_rfl) (by kernel_rfl) (by kernel_rfl) (fun _ _ _ h => h) HF (Or.inl ⟨by rfl, ?_⟩) ?_
    rotate_left 1
    · (rintro v ⟨a0, a1, a2, a3, a4, a5, a6, a7, a8⟩; go_simp; try with_reducible rfl)
    try simp only [Act.put]
    refine wpAnyL_take (i := 4) (v := ?_) rfl rfl (by kernel_rfl) (by kernel_rfl) (by kernel_rfl) (by kernel_rfl) (by kernel_rfl) (fun _ _ _ h => h) HF (Or.inl ⟨by rfl, ?_⟩) ?_
    rotate_left 1
    · (rintro v ⟨a0, a1, a2, a3, a4, a5, a6, a7, a8⟩; go_simp; try with_reducible rfl)
    try simp only [Act.put]
    refine wpAnyL_take (i := 5) (v := ?_) rfl rfl (by kernel_rfl) (by kernel_rfl) (by kernel_rfl) (by kernel_rfl) (by kernel_rfl) (fun _ _ _ h => h) HF (Or.inl ⟨by rfl, ?_⟩) ?_
    rotate_left 1
    · (rintro v ⟨a0, a1, a2, a3, a4, a5, a6, a7, a8⟩; go_simp; try with_reducible rfl)
    try simp only [Act.put]
    refine wpAnyL_take (i := 6) (v := ?_) rfl rfl (by kernel_rfl) (by kernel_rfl) (by kernel_rfl) (by kernel_rfl) (by kernel_rfl) (fun _ _ _ h => h) HF (Or.inl ⟨by rfl, ?_⟩) ?_
    rotate_left 1
    · (rintro v ⟨a0, a1, a2, a3, a4, a5, a6, a7, a8⟩; go_simp; try with_reducible rfl)
    try simp only [Act.put]
    refine wpAnyL_take (i := 7) (v := ?_) rfl rfl (by kernel_rfl) (by kernel_rfl) (by kernel_rfl) (by kernel_rfl) (by kernel_rfl) (fun _ _ _ h => h) HF (Or.inl ⟨by rfl, ?_⟩) ?_
    rotate_left 1
    · (rintro v ⟨a0, a1, a2, a3, a4, a5, a6, a7, a8⟩; go_simp; try with_reducible rfl)
    try simp only [Act.put]
    refine wpAnyL_take (i := 9) (v := ?_) rfl rfl (by kernel_rfl) (by kernel_rfl) (by kernel_rfl) (by kernel_rfl) (by kernel_rfl) (fun _ _ _ h => h) HF (Or.inl ⟨by rfl, ?_⟩) ?_
    rotate_left 1
    · (rintro v ⟨a0, a1, a2, a3, a4, a5, a6, a7, a8⟩; go_simp; try with_reducible rfl)
    try simp only [Act.put]
    refine wpAnyL_take (i := 10) (v := ?_) rfl rfl (by kernel_rfl) (by kernel_rfl) (by kernel_rfl) (by kernel_rfl) (by kernel_rfl) (fun _ _ _ h => h) HF (Or.inl ⟨by rfl, ?_⟩) ?_
    rotate_left 1
    · (rintro v ⟨a0, a1, a2, a3, a4, a5, a6, a7, a8⟩; go_simp; try with_reducible rfl)
    try simp only [Act.put]
    refine wpAnyL_two (i := 8) (k := 11) (by kernel_rfl) rfl rfl rfl rfl ?_ ?_
    · intro K hK
      go_simp
      obtain ⟨fp_lit, S'⟩ := S.has ((Below.refl _ _).alloc (Nat.le_refl _) _) (show Has (w3.alloc (.cells #[.int .i64 x0, .int .i64 x1, .int .i64 x2, .int .i64 x3] 2)) w3.heap.size (rowCells [x0, x1, x2, x3]) [.slice (some ⟨w3.heap.size, 0, none⟩) 4 4] from has_lit w3 [x0, x1, x2, x3] (by simp)) c.size
      replace c := c.alloc c.size (.cells #[.int .i64 x0, .int .i64 x1, .int .i64 x2, .int .i64 x3] 2)
      clear S; have S := S'; clear S'
      clear HF
      have HF : (w3.alloc (.cells #[.int .i64 x0, .int .i64 x1, .int .i64 x2, .int .i64 x3] 2)).cell? ⟨w.heap.size, 0, none⟩ = some (.int .i64 x0) ∧ (w3.alloc (.cells #[.int .i64 x0, .int .i64 x1, .int .i64 x2, .int .i64 x3] 2)).cell? ⟨w.heap.size, 1, none⟩ = some (.int .i64 x1) ∧ (w3.alloc (.cells #[.int .i64 x0, .int .i64 x1, .int .i64 x2, .int .i64 x3] 2)).cell? ⟨w.heap.size, 2, none⟩ = some (.int .i64 x2) ∧ (w3.alloc (.cells #[.int .i64 x0, .int .i64 x1, .int .i64 x2, .int .i64 x3] 2)).cell? ⟨w.heap.size, 3, none⟩ = some (.int .i64 x3) ∧ (w3.alloc (.cells #[.int .i64 x0, .int .i64 x1, .int .i64 x2, .int .i64 x3] 2)).cell? ⟨w.heap.size, 4, none⟩ = some (.int .i64 x4) ∧ (w3.alloc (.cells #[.int .i64 x0, .int .i64 x1, .int .i64 x2, .int .i64 x3] 2)).cell? ⟨w.heap.size, 5, none⟩ = some (.int .i64 x5) ∧ (w3.alloc (.cells #[.int .i64 x0, .int .i64 x1, .int .i64 x2, .int .i64 x3] 2)).cell? ⟨w.heap.size, 6, none⟩ = some (.int .i64 x6) ∧ (w3.alloc (.cells #[.int .i64 x0, .int .i64 x1, .int .i64 x2, .int .i64 x3] 2)).cell? ⟨w.heap.size, 7, none⟩ = some (.int .i64 x7) ∧ (w3.alloc (.cells #[.int .i64 x0, .int .i64 x1, .int .i64 x2, .int .i64 x3] 2)).cell? ⟨w.heap.size, 8, none⟩ = some (.int .i64 x8) := ⟨(S.at_ 1 rfl).cell 0, (S.at_ 1 rfl).cell 1, (S.at_ 1 rfl).cell 2, (S.at_ 1 rfl).cell 3, (S.at_ 1 rfl).cell 4, (S.at_ 1 rfl).cell 5, (S.at_ 1 rfl).cell 6, (S.at_ 1 rfl).cell 7, (S.at_ 1 rfl).cell 8⟩
      refine hK _ _ (fun _ => HF) ?_
      clear hK K
      try simp only [Act.put]
      generalize hw : w3.alloc (.cells #[.int .i64 x0, .int .i64 x1, .int .i64 x2, .int .i64 x3] 2) = w4 at *
      clear hw
      refine wpAnyL_step (i := 11) (by kernel_rfl) rfl rfl ?_
      intro K hK
      go_simp
      refine (iNums_any x4 x5 x6 x7 x8 _).mono ?_
      rintro e w5 ⟨A2, n2, c2, rfl, o, b⟩
      obtain ⟨fp_u, S'⟩ := S.has b o c.size
      replace c := c.trans (b.mono c.size)
      clear S; have S := S'; clear S' o b
      clear HF
      have HF : w5.cell? ⟨w.heap.size, 0, none⟩ = some (.int .i64 x0) ∧ w5.cell? ⟨w.heap.size, 1, none⟩ = some (.int .i64 x1) ∧ w5.cell? ⟨w.heap.size, 2, none⟩ = some (.int .i64 x2) ∧ w5.cell? ⟨w.heap.size, 3, none⟩ = some (.int .i64 x3) ∧ w5.cell? ⟨w.heap.size, 4, none⟩ = some (.int .i64 x4) ∧ w5.cell? ⟨w.heap.size, 5, none⟩ = some (.int .i64 x5) ∧ w5.cell? ⟨w.heap.size, 6, none⟩ = some (.int .i64 x6) ∧ w5.cell? ⟨w.heap.size, 7, none⟩ = some (.int .i64 x7) ∧ w5.cell? ⟨w.heap.size, 8, none⟩ = some (.int .i64 x8) := ⟨(S.at_ 2 rfl).cell 0, (S.at_ 2 rfl).cell 1, (S.at_ 2 rfl).cell 2, (S.at_ 2 rfl).cell 3, (S.at_ 2 rfl).cell 4, (S.at_ 2 rfl).cell 5, (S.at_ 2 rfl).cell 6, (S.at_ 2 rfl).cell 7, (S.at_ 2 rfl).cell 8⟩
      refine hK _ _ (fun _ => HF) ?_
      clear hK K
      try simp only [Act.put]
      have hsr := Rd.src (f := fun y : Int => [Dat.int y]) (g := fun y : Int => [y]) (l := opNs ⟨x4, x5, x6, x7, x8⟩) (e := 2) (k := 1) int_flat (fun _ => rfl) (by decide) (S.own_ 0 rfl).rd
      have hn2 : n2 ≤ 5 := by have := hsr.2; have := HR.out; omega
      replace S := S.pick 1 rfl
      replace S := (S.flat (f := fun y : Int => [Dat.int y]) (g := fun y : Int => [y]) int_flat (opNs ⟨x4, x5, x6, x7, x8⟩)).swap
      refine wpAnyL_step (i := 12) (by kernel_rfl) rfl rfl ?_
      intro K hK
      refine wp_append_many (f := fun y : Int => [Dat.int y]) (k := 1) (l := [x0, x1, x2, x3]) (l2 := opNs ⟨x4, x5, x6, x7, x8⟩) _ _ (by rfl) Try.underlying22 info64 (by rfl) (by decide) (fun _ => rfl) (by rfl) (S.own_ 0 rfl) (S.nodup_own 0 rfl) (by rfl) hsr.1 (S.own_ 1 rfl) hsr.2 (S.nodup_own 1 rfl) S.apart (by omega) (by omega) ?_
      intro A3 c3 w6 fp3 o3 n3 s3 t3
      have S' := S.merge t3 o3 n3 s3 c.size
      replace c := c.trans (S.below 0 rfl t3 c.size)
      clear S; have S := S'; clear S' o3 n3 s3 t3 hsr
      clear HF
      have HF : w6.cell? ⟨w.heap.size, 0, none⟩ = some (.int .i64 x0) ∧ w6.cell? ⟨w.heap.size, 1, none⟩ = some (.int .i64 x1) ∧ w6.cell? ⟨w.heap.size, 2, none⟩ = some (.int .i64 x2) ∧ w6.cell? ⟨w.heap.size, 3, none⟩ = some (.int .i64 x3) ∧ w6.cell? ⟨w.heap.size, 4, none⟩ = some (.int .i64 x4) ∧ w6.cell? ⟨w.heap.size, 5, none⟩ = some (.int .i64 x5) ∧ w6.cell? ⟨w.heap.size, 6, none⟩ = some (.int .i64 x6) ∧ w6.cell? ⟨w.heap.size, 7, none⟩ = some (.int .i64 x7) ∧ w6.cell? ⟨w.heap.size, 8, none⟩ = some (.int .i64 x8) := ⟨(S.at_ 2 rfl).cell 0, (S.at_ 2 rfl).cell 1, (S.at_ 2 rfl).cell 2, (S.at_ 2 rfl).cell 3, (S.at_ 2 rfl).cell 4, (S.at_ 2 rfl).cell 5, (S.at_ 2 rfl).cell 6, (S.at_ 2 rfl).cell 7, (S.at_ 2 rfl).cell 8⟩
      refine hK _ _ (fun _ => HF) ?_
      clear hK K
      try simp only [Act.put]
      refine wpAnyL_step (i := 13) (by kernel_rfl) rfl rfl ?_
      intro K hK
      go_simp
      refine hK _ _ (fun h => nomatch (show true = false from h)) ?_
      clear hK K
      try simp only [Act.put]
      refine wpAnyL_done (by kernel_rfl) ?_ _
      have H := Lib.hid S.first
      have C := Lib.hid c
      clear S c HF
      go_wp2
      go_ret
      exact ⟨_, _, _, rfl, by rw [HV.out]; exact H.out, C.out⟩
    · intro K hK
      go_simp
      refine (iNums_any x4 x5 x6 x7 x8 _).mono ?_
      rintro e w4 ⟨A2, n2, c2, rfl, o, b⟩
      obtain ⟨fp_u, S'⟩ := S.has b o c.size
      replace c := c.trans (b.mono c.size)
      clear S; have S := S'; clear S' o b
      clear HF
      have HF : w4.cell? ⟨w.heap.size, 0, none⟩ = some (.int .i64 x0) ∧ w4.cell? ⟨w.heap.size, 1, none⟩ = some (.int .i64 x1) ∧ w4.cell? ⟨w.heap.size, 2, none⟩ = some (.int .i64 x2) ∧ w4.cell? ⟨w.heap.size, 3, none⟩ = some (.int .i64 x3) ∧ w4.cell? ⟨w.heap.size, 4, none⟩ = some (.int .i64 x4) ∧ w4.cell? ⟨w.heap.size, 5, none⟩ = some (.int .i64 x5) ∧ w4.cell? ⟨w.heap.size, 6, none⟩ = some (.int .i64 x6) ∧ w4.cell? ⟨w.heap.size, 7, none⟩ = some (.int .i64 x7) ∧ w4.cell? ⟨w.heap.size, 8, none⟩ = some (.int .i64 x8) := ⟨(S.at_ 1 rfl).cell 0, (S.at_ 1 rfl).cell 1, (S.at_ 1 rfl).cell 2, (S.at_ 1 rfl).cell 3, (S.at_ 1 rfl).cell 4, (S.at_ 1 rfl).cell 5, (S.at_ 1 rfl).cell 6, (S.at_ 1 rfl).cell 7, (S.at_ 1 rfl).cell 8⟩
      refine hK _ _ (fun _ => HF) ?_
      clear hK K
      try simp only [Act.put]
      refine wpAnyL_step (i := 8) (by kernel_rfl) rfl rfl ?_
      intro K hK
      go_simp
      obtain ⟨fp_lit, S'⟩ := S.has ((Below.refl _ _).alloc (Nat.le_refl _) _) (show Has (w4.alloc (.cells #[.int .i64 x0, .int .i64 x1, .int .i64 x2, .int .i64 x3] 2)) w4.heap.size (rowCells [x0, x1, x2, x3]) [.slice (some ⟨w4.heap.size, 0, none⟩) 4 4] from has_lit w4 [x0, x1, x2, x3] (by simp)) c.size
      replace c := c.alloc c.size (.cells #[.int .i64 x0, .int .i64 x1, .int .i64 x2, .int .i64 x3] 2)
      clear S; have S := S'; clear S'
      clear HF
      have HF : (w4.alloc (.cells #[.int .i64 x0, .int .i64 x1, .int .i64 x2, .int .i64 x3] 2)).cell? ⟨w.heap.size, 0, none⟩ = some (.int .i64 x0) ∧ (w4.alloc (.cells #[.int .i64 x0, .int .i64 x1, .int .i64 x2, .int .i64 x3] 2)).cell? ⟨w.heap.size, 1, none⟩ = some (.int .i64 x1) ∧ (w4.alloc (.cells #[.int .i64 x0, .int .i64 x1, .int .i64 x2, .int .i64 x3] 2)).cell? ⟨w.heap.size, 2, none⟩ = some (.int .i64 x2) ∧ (w4.alloc (.cells #[.int .i64 x0, .int .i64 x1, .int .i64 x2, .int .i64 x3] 2)).cell? ⟨w.heap.size, 3, none⟩ = some (.int .i64 x3) ∧ (w4.alloc (.cells #[.int .i64 x0, .int .i64 x1, .int .i64 x2, .int .i64 x3] 2)).cell? ⟨w.heap.size, 4, none⟩ = some (.int .i64 x4) ∧ (w4.alloc (.cells #[.int .i64 x0, .int .i64 x1, .int .i64 x2, .int .i64 x3] 2)).cell? ⟨w.heap.size, 5, none⟩ = some (.int .i64 x5) ∧ (w4.alloc (.cells #[.int .i64 x0, .int .i64 x1, .int .i64 x2, .int .i64 x3] 2)).cell? ⟨w.heap.size, 6, none⟩ = some (.int .i64 x6) ∧ (w4.alloc (.cells #[.int .i64 x0, .int .i64 x1, .int .i64 x2, .int .i64 x3] 2)).cell? ⟨w.heap.size, 7, none⟩ = some (.int .i64 x7) ∧ (w4.alloc (.cells #[.int .i64 x0, .int .i64 x1, .int .i64 x2, .int .i64 x3] 2)).cell? ⟨w.heap.size, 8, none⟩ = some (.int .i64 x8) := ⟨(S.at_ 2 rfl).cell 0, (S.at_ 2 rfl).cell 1, (S.at_ 2 rfl).cell 2, (S.at_ 2 rfl).cell 3, (S.at_ 2 rfl).cell 4, (S.at_ 2 rfl).cell 5, (S.at_ 2 rfl).cell 6, (S.at_ 2 rfl).cell 7, (S.at_ 2 rfl).cell 8⟩
      refine hK _ _ (fun _ => HF) ?_
      clear hK K
      try simp only [Act.put]
      generalize hw : w4.alloc (.cells #[.int .i64 x0, .int .i64 x1, .int .i64 x2, .int .i64 x3] 2) = w5 at *
      clear hw
      have hsr := Rd.src (f := fun y : Int => [Dat.int y]) (g := fun y : Int => [y]) (l := opNs ⟨x4, x5, x6, x7, x8⟩) (e := 2) (k := 1) int_flat (fun _ => rfl) (by decide) (S.own_ 1 rfl).rd
      have hn2 : n2 ≤ 5 := by have := hsr.2; have := HR.out; omega
      replace S := S.pick 0 rfl
      replace S := (S.flat (f := fun y : Int => [Dat.int y]) (g := fun y : Int => [y]) int_flat (opNs ⟨x4, x5, x6, x7, x8⟩)).swap
      refine wpAnyL_step (i := 12) (by kernel_rfl) rfl rfl ?_
      intro K hK
      refine wp_append_many (f := fun y : Int => [Dat.int y]) (k := 1) (l := [x0, x1, x2, x3]) (l2 := opNs ⟨x4, x5, x6, x7, x8⟩) _ _ (by rfl) Try.underlying22 info64 (by rfl) (by decide) (fun _ => rfl) (by rfl) (S.own_ 0 rfl) (S.nodup_own 0 rfl) (by rfl) hsr.1 (S.own_ 1 rfl) hsr.2 (S.nodup_own 1 rfl) S.apart (by omega) (by omega) ?_
      intro A3 c3 w6 fp3 o3 n3 s3 t3
      have S' := S.merge t3 o3 n3 s3 c.size
      replace c := c.trans (S.below 0 rfl t3 c.size)
      clear S; have S := S'; clear S' o3 n3 s3 t3 hsr
      clear HF
      have HF : w6.cell? ⟨w.heap.size, 0, none⟩ = some (.int .i64 x0) ∧ w6.cell? ⟨w.heap.size, 1, none⟩ = some (.int .i64 x1) ∧ w6.cell? ⟨w.heap.size, 2, none⟩ = some (.int .i64 x2) ∧ w6.cell? ⟨w.heap.size, 3, none⟩ = some (.int .i64 x3) ∧ w6.cell? ⟨w.heap.size, 4, none⟩ = some (.int .i64 x4) ∧ w6.cell? ⟨w.heap.size, 5, none⟩ = some (.int .i64 x5) ∧ w6.cell? ⟨w.heap.size, 6, none⟩ = some (.int .i64 x6) ∧ w6.cell? ⟨w.heap.size, 7, none⟩ = some (.int .i64 x7) ∧ w6.cell? ⟨w.heap.size, 8, none⟩ = some (.int .i64 x8) := ⟨(S.at_ 2 rfl).cell 0, (S.at_ 2 rfl).cell 1, (S.at_ 2 rfl).cell 2, (S.at_ 2 rfl).cell 3, (S.at_ 2 rfl).cell 4, (S.at_ 2 rfl).cell 5, (S.at_ 2 rfl).cell 6, (S.at_ 2 rfl).cell 7, (S.at_ 2 rfl).cell 8⟩
      refine hK _ _ (fun _ => HF) ?_
      clear hK K
      try simp only [Act.put]
      refine wpAnyL_step (i := 13) (by kernel_rfl) rfl rfl ?_
      intro K hK
      go_simp
      refine hK _ _ (fun h => nomatch (show true = false from h)) ?_
      clear hK K
      try simp only [Act.put]
      refine wpAnyL_done (by kernel_rfl) ?_ _
      have H := Lib.hid S.first
      have C := Lib.hid c
      clear S c HF
      go_wp2
      go_ret
      exact ⟨_, _, _, rfl, by rw [HV.out]; exact H.out, C.out⟩

end Go.Proofs.Ytepnghjmpbfmcaa
