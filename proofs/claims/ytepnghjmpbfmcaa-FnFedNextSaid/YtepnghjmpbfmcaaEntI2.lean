/-
  Chapter 7: operations and their rows, of the program (by program, wip/gen/genenti2.py).
-/
import Derived.Test.YtepnghjmpbfmcaaEntI1
import Derived.Test.YtepnghjmpbfmcaaEntL
import Derived.RegionTactic
import Derived.BigQuiet
namespace Go.Proofs.Ytepnghjmpbfmcaa
set_option maxRecDepth 100000
open Go.RowKit

theorem iOpOk_any (x0 x1 x2 x3 x4 : Int) (w : World) :
    Calls Try.prog 112 #[.agg #[.int .i64 x0, .int .i64 x1, .int .i64 x2, .int .i64 x3, .int .i64 x4]] w fun e w' => e = .returned (.bool (opB ⟨x0, x1, x2, x3, x4⟩)) ∧ Below w.heap.size w w' := by
  have S := Sep.nil w w.heap.size
  have c := Below.refl w.heap.size w
  replace S := S.boxAt c.size (w.heap.size) rfl #[.int .i64 x0, .int .i64 x1, .int .i64 x2, .int .i64 x3, .int .i64 x4] 43
  replace c := c.alloc c.size (.cells #[.int .i64 x0, .int .i64 x1, .int .i64 x2, .int .i64 x3, .int .i64 x4] 43)
  go_enter Try.func112, Try.ntmps112
  have f0 : (w.alloc (.cells #[.int .i64 x0, .int .i64 x1, .int .i64 x2, .int .i64 x3, .int .i64 x4] 43)).cell? ⟨w.heap.size, 0, none⟩ = some (.int .i64 x0) := (S.at_ 0 rfl).cell 0
  have f1 : (w.alloc (.cells #[.int .i64 x0, .int .i64 x1, .int .i64 x2, .int .i64 x3, .int .i64 x4] 43)).cell? ⟨w.heap.size, 1, none⟩ = some (.int .i64 x1) := (S.at_ 0 rfl).cell 1
  have f2 : (w.alloc (.cells #[.int .i64 x0, .int .i64 x1, .int .i64 x2, .int .i64 x3, .int .i64 x4] 43)).cell? ⟨w.heap.size, 2, none⟩ = some (.int .i64 x2) := (S.at_ 0 rfl).cell 2
  have f3 : (w.alloc (.cells #[.int .i64 x0, .int .i64 x1, .int .i64 x2, .int .i64 x3, .int .i64 x4] 43)).cell? ⟨w.heap.size, 3, none⟩ = some (.int .i64 x3) := (S.at_ 0 rfl).cell 3
  have f4 : (w.alloc (.cells #[.int .i64 x0, .int .i64 x1, .int .i64 x2, .int .i64 x3, .int .i64 x4] 43)).cell? ⟨w.heap.size, 4, none⟩ = some (.int .i64 x4) := (S.at_ 0 rfl).cell 4
  go_wp2_with fail
  generalize w.alloc (.cells #[.int .i64 x0, .int .i64 x1, .int .i64 x2, .int .i64 x3, .int .i64 x4] 43) = w1 at *
  refine (iFits_any x0 x1 x2 x3 x4 _).mono ?_
  rintro e w2 ⟨rfl, b⟩
  replace c := c.trans (b.mono c.size)
  replace S := S.keep b
  clear b f0 f1 f2 f3 f4
  have C := Lib.hid c
  clear S c
  go_wp2
  go_ret
  exact ⟨rfl, C.out⟩

theorem iNums_any (x0 x1 x2 x3 x4 : Int) (w : World) :
    Calls Try.prog 113 #[.agg #[.int .i64 x0, .int .i64 x1, .int .i64 x2, .int .i64 x3, .int .i64 x4]] w fun e w' => ∃ (A : Option Addr) (n c : Nat), e = .returned (.slice A n c) ∧ Has w' w.heap.size (rowCells (opNs ⟨x0, x1, x2, x3, x4⟩)) [.slice A n c] ∧ Below w.heap.size w w' := by
  have S := Sep.nil w w.heap.size
  have c := Below.refl w.heap.size w
  replace S := S.boxAt c.size (w.heap.size) rfl #[.int .i64 x0, .int .i64 x1, .int .i64 x2, .int .i64 x3, .int .i64 x4] 43
  replace c := c.alloc c.size (.cells #[.int .i64 x0, .int .i64 x1, .int .i64 x2, .int .i64 x3, .int .i64 x4] 43)
  have H := Lib.hid ((has_lit (w.alloc (.cells #[.int .i64 x0, .int .i64 x1, .int .i64 x2, .int .i64 x3, .int .i64 x4] 43)) [x0, x1, x2, x3, x4] (by simp)).up c.size)
  have C := Lib.hid (c.alloc c.size (.cells #[.int .i64 x0, .int .i64 x1, .int .i64 x2, .int .i64 x3, .int .i64 x4] 2))
  clear S c
  go_enter Try.func113, Try.ntmps113
  have h9 := H.out
  rw [show (w.alloc (.cells #[.int .i64 x0, .int .i64 x1, .int .i64 x2, .int .i64 x3, .int .i64 x4] 43)).heap.size = w.heap.size + 1 by simp] at h9
  have H9 := Lib.hid h9
  clear h9 H
  go_wp2
  go_ret
  exact ⟨_, _, _, rfl, H9.out, C.out⟩

theorem has_nil_rowE (w : World) (base : Nat) : Has w base (rowCells []) [.slice none 0 0] := ⟨[], ow_nil_row w, List.nodup_nil, fun p hp => by cases hp⟩
theorem iOpRow_any (x0 x1 x2 x3 x4 : Int) (w : World) :
    Calls Try.prog 110 #[.agg #[.int .i64 x0, .int .i64 x1, .int .i64 x2, .int .i64 x3, .int .i64 x4]] w fun e w' => ∃ (A : Option Addr) (n c : Nat), e = .returned (.slice A n c) ∧ Has w' w.heap.size (rowCells (opRowM ⟨x0, x1, x2, x3, x4⟩)) [.slice A n c] ∧ Below w.heap.size w w' := by
  have S := Sep.nil w w.heap.size
  have c := Below.refl w.heap.size w
  replace S := S.boxAt c.size (w.heap.size) rfl #[.int .i64 x0, .int .i64 x1, .int .i64 x2, .int .i64 x3, .int .i64 x4] 43
  replace c := c.alloc c.size (.cells #[.int .i64 x0, .int .i64 x1, .int .i64 x2, .int .i64 x3, .int .i64 x4] 43)
  go_enter Try.func110, Try.ntmps110
  have f0 : (w.alloc (.cells #[.int .i64 x0, .int .i64 x1, .int .i64 x2, .int .i64 x3, .int .i64 x4] 43)).cell? ⟨w.heap.size, 0, none⟩ = some (.int .i64 x0) := (S.at_ 0 rfl).cell 0
  have f1 : (w.alloc (.cells #[.int .i64 x0, .int .i64 x1, .int .i64 x2, .int .i64 x3, .int .i64 x4] 43)).cell? ⟨w.heap.size, 1, none⟩ = some (.int .i64 x1) := (S.at_ 0 rfl).cell 1
  have f2 : (w.alloc (.cells #[.int .i64 x0, .int .i64 x1, .int .i64 x2, .int .i64 x3, .int .i64 x4] 43)).cell? ⟨w.heap.size, 2, none⟩ = some (.int .i64 x2) := (S.at_ 0 rfl).cell 2
  have f3 : (w.alloc (.cells #[.int .i64 x0, .int .i64 x1, .int .i64 x2, .int .i64 x3, .int .i64 x4] 43)).cell? ⟨w.heap.size, 3, none⟩ = some (.int .i64 x3) := (S.at_ 0 rfl).cell 3
  have f4 : (w.alloc (.cells #[.int .i64 x0, .int .i64 x1, .int .i64 x2, .int .i64 x3, .int .i64 x4] 43)).cell? ⟨w.heap.size, 4, none⟩ = some (.int .i64 x4) := (S.at_ 0 rfl).cell 4
  go_wp2_with fail
  generalize w.alloc (.cells #[.int .i64 x0, .int .i64 x1, .int .i64 x2, .int .i64 x3, .int .i64 x4] 43) = w1 at *
  refine (iFits_any x0 x1 x2 x3 x4 _).mono ?_
  rintro e w2 ⟨rfl, b⟩
  replace c := c.trans (b.mono c.size)
  replace S := S.keep b
  clear b f0 f1 f2 f3 f4
  cases hok : opB ⟨x0, x1, x2, x3, x4⟩
  case false =>
    have HV := Lib.hid (show opRowM ⟨x0, x1, x2, x3, x4⟩ = [] by unfold opRowM; rw [hok]; rfl)
    have C := Lib.hid c
    clear S c hok
    go_wp2
    go_ret
    exact ⟨_, _, _, rfl, by rw [HV.out]; exact has_nil_rowE _ _, C.out⟩
  case true =>
    have HV := Lib.hid (show opRowM ⟨x0, x1, x2, x3, x4⟩ = opNs ⟨x0, x1, x2, x3, x4⟩ by unfold opRowM; rw [if_pos hok])
    clear hok
    have f5 : w2.cell? ⟨w.heap.size, 0, none⟩ = some (.int .i64 x0) := (S.at_ 0 rfl).cell 0
    have f6 : w2.cell? ⟨w.heap.size, 1, none⟩ = some (.int .i64 x1) := (S.at_ 0 rfl).cell 1
    have f7 : w2.cell? ⟨w.heap.size, 2, none⟩ = some (.int .i64 x2) := (S.at_ 0 rfl).cell 2
    have f8 : w2.cell? ⟨w.heap.size, 3, none⟩ = some (.int .i64 x3) := (S.at_ 0 rfl).cell 3
    have f9 : w2.cell? ⟨w.heap.size, 4, none⟩ = some (.int .i64 x4) := (S.at_ 0 rfl).cell 4
    go_wp2_with fail
    refine (iNums_any x0 x1 x2 x3 x4 _).mono ?_
    rintro e w3 ⟨A, n, cc, rfl, o, b⟩
    obtain ⟨fp_u, S'⟩ := S.has b o c.size
    replace c := c.trans (b.mono c.size)
    clear S; have S := S'; clear S' o b f5 f6 f7 f8 f9
    have H := Lib.hid (S.first)
    have C := Lib.hid c
    clear S c
    go_wp2
    go_ret
    exact ⟨_, _, _, rfl, by rw [HV.out]; exact H.out, C.out⟩

set_option maxHeartbeats 6400000 in
theorem iOpOf_any (b off cc B : Nat) (x0 x1 x2 x3 x4 : Int) (d : List Int) (hx : ofOp d = ⟨x0, x1, x2, x3, x4⟩) (w : World) (h : IRow w B (some ⟨b, off, none⟩) 5 d) (hB : B ≤ w.heap.size) :
    Calls Try.prog 67 #[.slice (some ⟨b, off, none⟩) 5 cc] w fun e w' => e = .returned (.agg #[.int .i64 x0, .int .i64 x1, .int .i64 x2, .int .i64 x3, .int .i64 x4]) ∧ Below w.heap.size w w' := by
  obtain ⟨b', off', e, hb, hc⟩ := h.2 (by omega)
  injection e with e
  injection e with e1 e2
  subst e1 e2
  unfold ofOp at hx
  injection hx with q0 q1 q2 q3 q4
  have k0 := hc 0 (by omega)
  rw [q0] at k0
  have k1 := hc 1 (by omega)
  rw [q1] at k1
  have k2 := hc 2 (by omega)
  rw [q2] at k2
  have k3 := hc 3 (by omega)
  rw [q3] at k3
  have k4 := hc 4 (by omega)
  rw [q4] at k4
  rw [Nat.add_zero] at k0
  clear hc h q0 q1 q2 q3 q4
  have S := Sep.nil w w.heap.size
  have c := Below.refl w.heap.size w
  replace S := S.boxAt c.size (w.heap.size) rfl #[.int .i64 0, .int .i64 0, .int .i64 0, .int .i64 0, .int .i64 0] 43
  replace c := c.alloc c.size (.cells #[.int .i64 0, .int .i64 0, .int .i64 0, .int .i64 0, .int .i64 0] 43)
  go_enter Try.func67, Try.ntmps67
  go_wp2_with fail
  generalize w.alloc (.cells #[.int .i64 0, .int .i64 0, .int .i64 0, .int .i64 0, .int .i64 0] 43) = w1 at *
  refine wp_region_L (fun v => v.cell? ⟨b, off, none⟩ = some (.int .i64 x0) ∧ v.cell? ⟨b, off + 1, none⟩ = some (.int .i64 x1) ∧ v.cell? ⟨b, off + 2, none⟩ = some (.int .i64 x2) ∧ v.cell? ⟨b, off + 3, none⟩ = some (.int .i64 x3) ∧ v.cell? ⟨b, off + 4, none⟩ = some (.int .i64 x4)) 16 (by kernel_rfl) ?_
  replace S := S.keep ((Below.refl _ _).drew)
  replace c := c.drew
  generalize w1.drew = w2 at *
  have HF : w2.cell? ⟨b, off, none⟩ = some (.int .i64 x0) ∧ w2.cell? ⟨b, off + 1, none⟩ = some (.int .i64 x1) ∧ w2.cell? ⟨b, off + 2, none⟩ = some (.int .i64 x2) ∧ w2.cell? ⟨b, off + 3, none⟩ = some (.int .i64 x3) ∧ w2.cell? ⟨b, off + 4, none⟩ = some (.int .i64 x4) := ⟨(c.cell (p := ⟨b, off, none⟩) (show b < _ by omega)).trans k0, (c.cell (p := ⟨b, off + 1, none⟩) (show b < _ by omega)).trans k1, (c.cell (p := ⟨b, off + 2, none⟩) (show b < _ by omega)).trans k2, (c.cell (p := ⟨b, off + 3, none⟩) (show b < _ by omega)).trans k3, (c.cell (p := ⟨b, off + 4, none⟩) (show b < _ by omega)).trans k4⟩
  refine wpAnyL_take (i := 0) (v := ?_) rfl rfl (by kernel_rfl) (by kernel_rfl) (by kernel_rfl) (by kernel_rfl) (by kernel_rfl) (fun _ _ _ h => h) HF (Or.inl ⟨by rfl, ?_⟩) ?_
  rotate_left 1
  · (rintro v ⟨a0, a1, a2, a3, a4⟩; go_simp; try with_reducible rfl)
  try simp only [Act.put]
  refine wpAnyL_take (i := 1) (v := ?_) rfl rfl (by kernel_rfl) (by kernel_rfl) (by kernel_rfl) (by kernel_rfl) (by kernel_rfl) (fun _ _ _ h => h) HF (Or.inl ⟨by rfl, ?_⟩) ?_
  rotate_left 1
  · (rintro v ⟨a0, a1, a2, a3, a4⟩; go_simp; try with_reducible rfl)
  try simp only [Act.put]
  refine wpAnyL_take (i := 2) (v := ?_) rfl rfl (by kernel_rfl) (by kernel_rfl) (by kernel_rfl) (by kernel_rfl) (by kernel_rfl) (fun _ _ _ h => h) HF (Or.inl ⟨by rfl, ?_⟩) ?_
  rotate_left 1
  · (rintro v ⟨a0, a1, a2, a3, a4⟩; go_simp; try with_reducible rfl)
  try simp only [Act.put]
  refine wpAnyL_take (i := 3) (v := ?_) rfl rfl (by kernel_rfl) (by kernel_rfl) (by kernel_rfl) (by kernel_rfl) (by kernel_rfl) (fun _ _ _ h => h) HF (Or.inl ⟨by rfl, ?_⟩) ?_
  rotate_left 1
  · (rintro v ⟨a0, a1, a2, a3, a4⟩; go_simp; try with_reducible rfl)
  try simp only [Act.put]
  refine wpAnyL_take (i := 4) (v := ?_) rfl rfl (by kernel_rfl) (by kernel_rfl) (by kernel_rfl) (by kernel_rfl) (by kernel_rfl) (fun _ _ _ h => h) HF (Or.inl ⟨by rfl, ?_⟩) ?_
  rotate_left 1
  · (rintro v ⟨a0, a1, a2, a3, a4⟩; go_simp; try with_reducible rfl)
  try simp only [Act.put]
  refine wpAnyL_take (i := 5) (v := ?_) rfl rfl (by kernel_rfl) (by kernel_rfl) (by kernel_rfl) (by kernel_rfl) (by kernel_rfl) (fun _ _ _ h => h) HF (Or.inl ⟨by rfl, ?_⟩) ?_
  rotate_left 1
  · (rintro v ⟨a0, a1, a2, a3, a4⟩; go_simp; try with_reducible rfl)
  try simp only [Act.put]
  refine wpAnyL_take (i := 6) (v := ?_) rfl rfl (by kernel_rfl) (by kernel_rfl) (by kernel_rfl) (by kernel_rfl) (by kernel_rfl) (fun _ _ _ h => h) HF (Or.inl ⟨by rfl, ?_⟩) ?_
  rotate_left 1
  · (rintro v ⟨a0, a1, a2, a3, a4⟩; go_simp; try with_reducible rfl)
  try simp only [Act.put]
  refine wpAnyL_take (i := 7) (v := ?_) rfl rfl (by kernel_rfl) (by kernel_rfl) (by kernel_rfl) (by kernel_rfl) (by kernel_rfl) (fun _ _ _ h => h) HF (Or.inl ⟨by rfl, ?_⟩) ?_
  rotate_left 1
  · (rintro v ⟨a0, a1, a2, a3, a4⟩; go_simp; try with_reducible rfl)
  try simp only [Act.put]
  refine wpAnyL_take (i := 8) (v := ?_) rfl rfl (by kernel_rfl) (by kernel_rfl) (by kernel_rfl) (by kernel_rfl) (by kernel_rfl) (fun _ _ _ h => h) HF (Or.inl ⟨by rfl, ?_⟩) ?_
  rotate_left 1
  · (rintro v ⟨a0, a1, a2, a3, a4⟩; go_simp; try with_reducible rfl)
  try simp only [Act.put]
  refine wpAnyL_take (i := 9) (v := ?_) rfl rfl (by kernel_rfl) (by kernel_rfl) (by kernel_rfl) (by kernel_rfl) (by kernel_rfl) (fun _ _ _ h => h) HF (Or.inl ⟨by rfl, ?_⟩) ?_
  rotate_left 1
  · (rintro v ⟨a0, a1, a2, a3, a4⟩; go_simp; try with_reducible rfl)
  try simp only [Act.put]
  refine wpAnyL_take (i := 10) (v := ?_) rfl rfl (by kernel_rfl) (by kernel_rfl) (by kernel_rfl) (by kernel_rfl) (by kernel_rfl) (fun _ _ _ h => h) HF (Or.inl ⟨by rfl, ?_⟩) ?_
  rotate_left 1
  · (rintro v ⟨a0, a1, a2, a3, a4⟩; go_simp; try with_reducible rfl)
  try simp only [Act.put]
  refine wpAnyL_take (i := 11) (v := ?_) rfl rfl (by kernel_rfl) (by kernel_rfl) (by kernel_rfl) (by kernel_rfl) (by kernel_rfl) (fun _ _ _ h => h) HF (Or.inl ⟨by rfl, ?_⟩) ?_
  rotate_left 1
  · (rintro v ⟨a0, a1, a2, a3, a4⟩; go_simp; try with_reducible rfl)
  try simp only [Act.put]
  refine wpAnyL_take (i := 12) (v := ?_) rfl rfl (by kernel_rfl) (by kernel_rfl) (by kernel_rfl) (by kernel_rfl) (by kernel_rfl) (fun _ _ _ h => h) HF (Or.inl ⟨by rfl, ?_⟩) ?_
  rotate_left 1
  · (rintro v ⟨a0, a1, a2, a3, a4⟩; go_simp; try with_reducible rfl)
  try simp only [Act.put]
  refine wpAnyL_take (i := 13) (v := ?_) rfl rfl (by kernel_rfl) (by kernel_rfl) (by kernel_rfl) (by kernel_rfl) (by kernel_rfl) (fun _ _ _ h => h) HF (Or.inl ⟨by rfl, ?_⟩) ?_
  rotate_left 1
  · (rintro v ⟨a0, a1, a2, a3, a4⟩; go_simp; try with_reducible rfl)
  try simp only [Act.put]
  refine wpAnyL_take (i := 14) (v := ?_) rfl rfl (by kernel_rfl) (by kernel_rfl) (by kernel_rfl) (by kernel_rfl) (by kernel_rfl) (fun _ _ _ h => h) HF (Or.inl ⟨by rfl, ?_⟩) ?_
  rotate_left 1
  · (rintro v ⟨a0, a1, a2, a3, a4⟩; go_simp; try with_reducible rfl)
  try simp only [Act.put]
  refine wpAnyL_take (i := 15) (v := ?_) rfl rfl (by kernel_rfl) (by kernel_rfl) (by kernel_rfl) (by kernel_rfl) (by kernel_rfl) (fun _ _ _ h => h) HF (Or.inl ⟨by rfl, ?_⟩) ?_
  rotate_left 1
  · (rintro v ⟨a0, a1, a2, a3, a4⟩; go_simp; try with_reducible rfl)
  try simp only [Act.put]
  have f0 : w2.cell? ⟨w.heap.size, 0, none⟩ = some (.int .i64 0) := (S.at_ 0 rfl).cell 0
  have f1 := (S.at_ 0 rfl).free 0
  have f2 : w2.cell? ⟨w.heap.size, 1, none⟩ = some (.int .i64 0) := (S.at_ 0 rfl).cell 1
  have f3 := (S.at_ 0 rfl).free 1
  have f4 : w2.cell? ⟨w.heap.size, 2, none⟩ = some (.int .i64 0) := (S.at_ 0 rfl).cell 2
  have f5 := (S.at_ 0 rfl).free 2
  have f6 : w2.cell? ⟨w.heap.size, 3, none⟩ = some (.int .i64 0) := (S.at_ 0 rfl).cell 3
  have f7 := (S.at_ 0 rfl).free 3
  have f8 : w2.cell? ⟨w.heap.size, 4, none⟩ = some (.int .i64 0) := (S.at_ 0 rfl).cell 4
  have f9 := (S.at_ 0 rfl).free 4
  refine wpAnyL_step (i := 16) (by kernel_rfl) rfl rfl ?_
  intro K hK
  go_simp
  refine hK _ _ (fun h => nomatch (show true = false from h)) ?_
  clear hK K
  try simp only [Act.put]
  refine wpAnyL_done (by kernel_rfl) ?_ _
  replace S := S.put 0 rfl 0 (.int .i64 x0)
  replace c := c.setCell (p := ⟨w.heap.size, 0, none⟩) (by show w.heap.size ≤ w.heap.size; omega) (.int .i64 x0)
  replace S := S.put 0 rfl 1 (.int .i64 x1)
  replace c := c.setCell (p := ⟨w.heap.size, 1, none⟩) (by show w.heap.size ≤ w.heap.size; omega) (.int .i64 x1)
  replace S := S.put 0 rfl 2 (.int .i64 x2)
  replace c := c.setCell (p := ⟨w.heap.size, 2, none⟩) (by show w.heap.size ≤ w.heap.size; omega) (.int .i64 x2)
  replace S := S.put 0 rfl 3 (.int .i64 x3)
  replace c := c.setCell (p := ⟨w.heap.size, 3, none⟩) (by show w.heap.size ≤ w.heap.size; omega) (.int .i64 x3)
  replace S := S.put 0 rfl 4 (.int .i64 x4)
  replace c := c.setCell (p := ⟨w.heap.size, 4, none⟩) (by show w.heap.size ≤ w.heap.size; omega) (.int .i64 x4)
  clear HF
  generalize ((((w2.setCell ⟨w.heap.size, 0, none⟩ (.int .i64 x0)).setCell ⟨w.heap.size, 1, none⟩ (.int .i64 x1)).setCell ⟨w.heap.size, 2, none⟩ (.int .i64 x2)).setCell ⟨w.heap.size, 3, none⟩ (.int .i64 x3)).setCell ⟨w.heap.size, 4, none⟩ (.int .i64 x4) = w3 at *
  clear f0 f1 f2 f3 f4 f5 f6 f7 f8 f9
  have r0 := Lib.hid ((S.at_ 0 rfl).cell 0)
  have r1 := Lib.hid ((S.at_ 0 rfl).cell 1)
  have r2 := Lib.hid ((S.at_ 0 rfl).cell 2)
  have r3 := Lib.hid ((S.at_ 0 rfl).cell 3)
  have r4 := Lib.hid ((S.at_ 0 rfl).cell 4)
  have C := Lib.hid c
  clear S c
  go_wp2
  exact bodyPost_ret (v := .agg #[.int .i64 x0, .int .i64 x1, .int .i64 x2, .int .i64 x3, .int .i64 x4]) (by simp [results, Try.results67, go_sem, r0.out, r1.out, r2.out, r3.out, r4.out]) rfl ⟨rfl, C.out⟩

end Go.Proofs.Ytepnghjmpbfmcaa
