/-
  An operation drawn by the laws: a valid one (by program, wip/gen/genent9.py).
-/
import Derived.Test.YtepnghjmpbfmcaaEntM
import Derived.Test.YtepnghjmpbfmcaaDrT
import Derived.RegionTactic
import Derived.BigQuiet
namespace Go.Proofs.Ytepnghjmpbfmcaa
set_option maxRecDepth 100000
open Go.RowKit

set_option maxHeartbeats 3200000 in
theorem w9op_any (B p : Nat) (w : World) (h : LCur w B p) :
    Calls Try.prog 51 #[.pointer (some ⟨p, 0, none⟩)] w (fun e w' => ∃ (x0 x1 x2 x3 x4 : Int), opB ⟨x0, x1, x2, x3, x4⟩ = true ∧ e = .returned (.agg #[.int .i64 x0, .int .i64 x1, .int .i64 x2, .int .i64 x3, .int .i64 x4]) ∧ LCur w' B p ∧ w.grownBy w' (some p)) := by
  have X := DrL.start h
  clear h
  replace X := X.boxAt (w.heap.size) rfl #[.int .i64 0, .int .i64 0, .int .i64 0, .int .i64 0, .int .i64 0] 43
  go_enter Try.func51, Try.ntmps51
  go_wp2_with fail
  generalize w.alloc (.cells #[.int .i64 0, .int .i64 0, .int .i64 0, .int .i64 0, .int .i64 0] 43) = w1 at *
  refine (lbelow_any _ _ _ X.cur 5 (by decide)).mono ?_
  rintro e w2 ⟨q, hq, rfl, cu, gr⟩
  replace X := X.draw cu gr
  clear cu gr
  have hq5 : q = 0 ∨ q = 1 ∨ q = 2 ∨ q = 3 ∨ q = 4 := by omega
  clear hq
  rcases hq5 with rfl | rfl | rfl | rfl | rfl
  · go_wp2_with fail
    refine (lbelow_any _ _ _ X.cur 10 (by decide)).mono ?_
    rintro e w3 ⟨v1, hv1, rfl, cu, gr⟩
    replace X := X.draw cu gr
    clear cu gr
    have HV := Lib.hid (show opB ⟨2, v1, 0, 0, 0⟩ = true by simp [opB, inB]; omega)
    have f0 : w3.cell? ⟨w.heap.size, 0, none⟩ = some (.int .i64 0) := (X.sep.at_ 0 rfl).cell 0
    have f1 := (X.sep.at_ 0 rfl).free 0
    have f2 : w3.cell? ⟨w.heap.size, 1, none⟩ = some (.int .i64 0) := (X.sep.at_ 0 rfl).cell 1
    have f3 := (X.sep.at_ 0 rfl).free 1
    have f4 : w3.cell? ⟨w.heap.size, 2, none⟩ = some (.int .i64 0) := (X.sep.at_ 0 rfl).cell 2
    have f5 := (X.sep.at_ 0 rfl).free 2
    have f6 : w3.cell? ⟨w.heap.size, 3, none⟩ = some (.int .i64 0) := (X.sep.at_ 0 rfl).cell 3
    have f7 := (X.sep.at_ 0 rfl).free 3
    have f8 : w3.cell? ⟨w.heap.size, 4, none⟩ = some (.int .i64 0) := (X.sep.at_ 0 rfl).cell 4
    have f9 := (X.sep.at_ 0 rfl).free 4
    replace X := X.put 0 rfl 0 (.int .i64 2)
    replace X := X.put 0 rfl 1 (.int .i64 v1)
    replace X := X.put 0 rfl 2 (.int .i64 0)
    replace X := X.put 0 rfl 3 (.int .i64 0)
    replace X := X.put 0 rfl 4 (.int .i64 0)
    replace X : DrL w _ _ _ [.blk (w.heap.size) #[.int .i64 2, .int .i64 v1, .int .i64 0, .int .i64 0, .int .i64 0] 43] := X
    have r0 := Lib.hid ((X.sep.at_ 0 rfl).cell 0)
    have r1 := Lib.hid ((X.sep.at_ 0 rfl).cell 1)
    have r2 := Lib.hid ((X.sep.at_ 0 rfl).cell 2)
    have r3 := Lib.hid ((X.sep.at_ 0 rfl).cell 3)
    have r4 := Lib.hid ((X.sep.at_ 0 rfl).cell 4)
    have CU := Lib.hid X.cur
    have GR := Lib.hid X.grown
    clear X
    go_wp2
    exact bodyPost_ret (v := .agg #[.int .i64 2, .int .i64 v1, .int .i64 0, .int .i64 0, .int .i64 0]) (by simp [results, Try.results51, go_sem, r0.out, r1.out, r2.out, r3.out, r4.out]) rfl ⟨2, v1, 0, 0, 0, HV.out, rfl, CU.out, GR.out⟩
  · go_wp2_with fail
    refine (lbelow_any _ _ _ X.cur 20 (by decide)).mono ?_
    rintro e w3 ⟨v1, hv1, rfl, cu, gr⟩
    replace X := X.draw cu gr
    clear cu gr
    have hwv1 : IntKind.i64.wrap (1 + v1) = 1 + v1 := by rw [IntKind.wrap_i64]; omega
    go_wp2_with fail
    refine (lbelow_any _ _ _ X.cur 90 (by decide)).mono ?_
    rintro e w4 ⟨v2, hv2, rfl, cu, gr⟩
    replace X := X.draw cu gr
    clear cu gr
    go_wp2_with fail
    refine (lbelow_any _ _ _ X.cur 10 (by decide)).mono ?_
    rintro e w5 ⟨v3, hv3, rfl, cu, gr⟩
    replace X := X.draw cu gr
    clear cu gr
    go_wp2_with fail
    refine (lbelow_any _ _ _ X.cur 1000 (by decide)).mono ?_
    rintro e w6 ⟨v4, hv4, rfl, cu, gr⟩
    replace X := X.draw cu gr
    clear cu gr
    have HV := Lib.hid (show opB ⟨3, 1 + v1, v2, v3, v4⟩ = true by simp [opB, inB]; omega)
    have f0 : w6.cell? ⟨w.heap.size, 0, none⟩ = some (.int .i64 0) := (X.sep.at_ 0 rfl).cell 0
    have f1 := (X.sep.at_ 0 rfl).free 0
    have f2 : w6.cell? ⟨w.heap.size, 1, none⟩ = some (.int .i64 0) := (X.sep.at_ 0 rfl).cell 1
    have f3 := (X.sep.at_ 0 rfl).free 1
    have f4 : w6.cell? ⟨w.heap.size, 2, none⟩ = some (.int .i64 0) := (X.sep.at_ 0 rfl).cell 2
    have f5 := (X.sep.at_ 0 rfl).free 2
    have f6 : w6.cell? ⟨w.heap.size, 3, none⟩ = some (.int .i64 0) := (X.sep.at_ 0 rfl).cell 3
    have f7 := (X.sep.at_ 0 rfl).free 3
    have f8 : w6.cell? ⟨w.heap.size, 4, none⟩ = some (.int .i64 0) := (X.sep.at_ 0 rfl).cell 4
    have f9 := (X.sep.at_ 0 rfl).free 4
    replace X := X.put 0 rfl 0 (.int .i64 3)
    replace X := X.put 0 rfl 1 (.int .i64 (1 + v1))
    replace X := X.put 0 rfl 2 (.int .i64 v2)
    replace X := X.put 0 rfl 3 (.int .i64 v3)
    replace X := X.put 0 rfl 4 (.int .i64 v4)
    replace X : DrL w _ _ _ [.blk (w.heap.size) #[.int .i64 3, .int .i64 (1 + v1), .int .i64 v2, .int .i64 v3, .int .i64 v4] 43] := X
    have r0 := Lib.hid ((X.sep.at_ 0 rfl).cell 0)
    have r1 := Lib.hid ((X.sep.at_ 0 rfl).cell 1)
    have r2 := Lib.hid ((X.sep.at_ 0 rfl).cell 2)
    have r3 := Lib.hid ((X.sep.at_ 0 rfl).cell 3)
    have r4 := Lib.hid ((X.sep.at_ 0 rfl).cell 4)
    have CU := Lib.hid X.cur
    have GR := Lib.hid X.grown
    clear X
    go_wp2
    exact bodyPost_ret (v := .agg #[.int .i64 3, .int .i64 (1 + v1), .int .i64 v2, .int .i64 v3, .int .i64 v4]) (by simp [results, Try.results51, go_sem, r0.out, r1.out, r2.out, r3.out, r4.out]) rfl ⟨3, 1 + v1, v2, v3, v4, HV.out, rfl, CU.out, GR.out⟩
  · go_wp2_with fail
    refine (lbelow_any _ _ _ X.cur 20 (by decide)).mono ?_
    rintro e w3 ⟨v1, hv1, rfl, cu, gr⟩
    replace X := X.draw cu gr
    clear cu gr
    have hwv1 : IntKind.i64.wrap (1 + v1) = 1 + v1 := by rw [IntKind.wrap_i64]; omega
    go_wp2_with fail
    refine (lbelow_any _ _ _ X.cur 5 (by decide)).mono ?_
    rintro e w4 ⟨v2, hv2, rfl, cu, gr⟩
    replace X := X.draw cu gr
    clear cu gr
    have HV := Lib.hid (show opB ⟨4, 1 + v1, v2, 0, 0⟩ = true by simp [opB, inB]; omega)
    have f0 : w4.cell? ⟨w.heap.size, 0, none⟩ = some (.int .i64 0) := (X.sep.at_ 0 rfl).cell 0
    have f1 := (X.sep.at_ 0 rfl).free 0
    have f2 : w4.cell? ⟨w.heap.size, 1, none⟩ = some (.int .i64 0) := (X.sep.at_ 0 rfl).cell 1
    have f3 := (X.sep.at_ 0 rfl).free 1
    have f4 : w4.cell? ⟨w.heap.size, 2, none⟩ = some (.int .i64 0) := (X.sep.at_ 0 rfl).cell 2
    have f5 := (X.sep.at_ 0 rfl).free 2
    have f6 : w4.cell? ⟨w.heap.size, 3, none⟩ = some (.int .i64 0) := (X.sep.at_ 0 rfl).cell 3
    have f7 := (X.sep.at_ 0 rfl).free 3
    have f8 : w4.cell? ⟨w.heap.size, 4, none⟩ = some (.int .i64 0) := (X.sep.at_ 0 rfl).cell 4
    have f9 := (X.sep.at_ 0 rfl).free 4
    replace X := X.put 0 rfl 0 (.int .i64 4)
    replace X := X.put 0 rfl 1 (.int .i64 (1 + v1))
    replace X := X.put 0 rfl 2 (.int .i64 v2)
    replace X := X.put 0 rfl 3 (.int .i64 0)
    replace X := X.put 0 rfl 4 (.int .i64 0)
    replace X : DrL w _ _ _ [.blk (w.heap.size) #[.int .i64 4, .int .i64 (1 + v1), .int .i64 v2, .int .i64 0, .int .i64 0] 43] := X
    have r0 := Lib.hid ((X.sep.at_ 0 rfl).cell 0)
    have r1 := Lib.hid ((X.sep.at_ 0 rfl).cell 1)
    have r2 := Lib.hid ((X.sep.at_ 0 rfl).cell 2)
    have r3 := Lib.hid ((X.sep.at_ 0 rfl).cell 3)
    have r4 := Lib.hid ((X.sep.at_ 0 rfl).cell 4)
    have CU := Lib.hid X.cur
    have GR := Lib.hid X.grown
    clear X
    go_wp2
    exact bodyPost_ret (v := .agg #[.int .i64 4, .int .i64 (1 + v1), .int .i64 v2, .int .i64 0, .int .i64 0]) (by simp [results, Try.results51, go_sem, r0.out, r1.out, r2.out, r3.out, r4.out]) rfl ⟨4, 1 + v1, v2, 0, 0, HV.out, rfl, CU.out, GR.out⟩
  · go_wp2_with fail
    refine (lbelow_any _ _ _ X.cur 40 (by decide)).mono ?_
    rintro e w3 ⟨v1, hv1, rfl, cu, gr⟩
    replace X := X.draw cu gr
    clear cu gr
    have hwv1 : IntKind.i64.wrap (1 + v1) = 1 + v1 := by rw [IntKind.wrap_i64]; omega
    have HV := Lib.hid (show opB ⟨5, 1 + v1, 0, 0, 0⟩ = true by simp [opB, inB]; omega)
    have f0 : w3.cell? ⟨w.heap.size, 0, none⟩ = some (.int .i64 0) := (X.sep.at_ 0 rfl).cell 0
    have f1 := (X.sep.at_ 0 rfl).free 0
    have f2 : w3.cell? ⟨w.heap.size, 1, none⟩ = some (.int .i64 0) := (X.sep.at_ 0 rfl).cell 1
    have f3 := (X.sep.at_ 0 rfl).free 1
    have f4 : w3.cell? ⟨w.heap.size, 2, none⟩ = some (.int .i64 0) := (X.sep.at_ 0 rfl).cell 2
    have f5 := (X.sep.at_ 0 rfl).free 2
    have f6 : w3.cell? ⟨w.heap.size, 3, none⟩ = some (.int .i64 0) := (X.sep.at_ 0 rfl).cell 3
    have f7 := (X.sep.at_ 0 rfl).free 3
    have f8 : w3.cell? ⟨w.heap.size, 4, none⟩ = some (.int .i64 0) := (X.sep.at_ 0 rfl).cell 4
    have f9 := (X.sep.at_ 0 rfl).free 4
    replace X := X.put 0 rfl 0 (.int .i64 5)
    replace X := X.put 0 rfl 1 (.int .i64 (1 + v1))
    replace X := X.put 0 rfl 2 (.int .i64 0)
    replace X := X.put 0 rfl 3 (.int .i64 0)
    replace X := X.put 0 rfl 4 (.int .i64 0)
    replace X : DrL w _ _ _ [.blk (w.heap.size) #[.int .i64 5, .int .i64 (1 + v1), .int .i64 0, .int .i64 0, .int .i64 0] 43] := X
    have r0 := Lib.hid ((X.sep.at_ 0 rfl).cell 0)
    have r1 := Lib.hid ((X.sep.at_ 0 rfl).cell 1)
    have r2 := Lib.hid ((X.sep.at_ 0 rfl).cell 2)
    have r3 := Lib.hid ((X.sep.at_ 0 rfl).cell 3)
    have r4 := Lib.hid ((X.sep.at_ 0 rfl).cell 4)
    have CU := Lib.hid X.cur
    have GR := Lib.hid X.grown
    clear X
    go_wp2
    exact bodyPost_ret (v := .agg #[.int .i64 5, .int .i64 (1 + v1), .int .i64 0, .int .i64 0, .int .i64 0]) (by simp [results, Try.results51, go_sem, r0.out, r1.out, r2.out, r3.out, r4.out]) rfl ⟨5, 1 + v1, 0, 0, 0, HV.out, rfl, CU.out, GR.out⟩
  · go_wp2_with fail
    refine (lbelow_any _ _ _ X.cur 10 (by decide)).mono ?_
    rintro e w3 ⟨v1, hv1, rfl, cu, gr⟩
    replace X := X.draw cu gr
    clear cu gr
    go_wp2_with fail
    refine (lbelow_any _ _ _ X.cur 1000 (by decide)).mono ?_
    rintro e w4 ⟨v2, hv2, rfl, cu, gr⟩
    replace X := X.draw cu gr
    clear cu gr
    have HV := Lib.hid (show opB ⟨1, v1, v2, 0, 0⟩ = true by simp [opB, inB]; omega)
    have f0 : w4.cell? ⟨w.heap.size, 0, none⟩ = some (.int .i64 0) := (X.sep.at_ 0 rfl).cell 0
    have f1 := (X.sep.at_ 0 rfl).free 0
    have f2 : w4.cell? ⟨w.heap.size, 1, none⟩ = some (.int .i64 0) := (X.sep.at_ 0 rfl).cell 1
    have f3 := (X.sep.at_ 0 rfl).free 1
    have f4 : w4.cell? ⟨w.heap.size, 2, none⟩ = some (.int .i64 0) := (X.sep.at_ 0 rfl).cell 2
    have f5 := (X.sep.at_ 0 rfl).free 2
    have f6 : w4.cell? ⟨w.heap.size, 3, none⟩ = some (.int .i64 0) := (X.sep.at_ 0 rfl).cell 3
    have f7 := (X.sep.at_ 0 rfl).free 3
    have f8 : w4.cell? ⟨w.heap.size, 4, none⟩ = some (.int .i64 0) := (X.sep.at_ 0 rfl).cell 4
    have f9 := (X.sep.at_ 0 rfl).free 4
    replace X := X.put 0 rfl 0 (.int .i64 1)
    replace X := X.put 0 rfl 1 (.int .i64 v1)
    replace X := X.put 0 rfl 2 (.int .i64 v2)
    replace X := X.put 0 rfl 3 (.int .i64 0)
    replace X := X.put 0 rfl 4 (.int .i64 0)
    replace X : DrL w _ _ _ [.blk (w.heap.size) #[.int .i64 1, .int .i64 v1, .int .i64 v2, .int .i64 0, .int .i64 0] 43] := X
    have r0 := Lib.hid ((X.sep.at_ 0 rfl).cell 0)
    have r1 := Lib.hid ((X.sep.at_ 0 rfl).cell 1)
    have r2 := Lib.hid ((X.sep.at_ 0 rfl).cell 2)
    have r3 := Lib.hid ((X.sep.at_ 0 rfl).cell 3)
    have r4 := Lib.hid ((X.sep.at_ 0 rfl).cell 4)
    have CU := Lib.hid X.cur
    have GR := Lib.hid X.grown
    clear X
    go_wp2
    exact bodyPost_ret (v := .agg #[.int .i64 1, .int .i64 v1, .int .i64 v2, .int .i64 0, .int .i64 0]) (by simp [results, Try.results51, go_sem, r0.out, r1.out, r2.out, r3.out, r4.out]) rfl ⟨1, v1, v2, 0, 0, HV.out, rfl, CU.out, GR.out⟩

end Go.Proofs.Ytepnghjmpbfmcaa
