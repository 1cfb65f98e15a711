/-
  Chapter 12: the acknowledgment of an entry, of the model and of the program (by program, wip/gen/genlog1.py).
-/
import Derived.Test.YthjjdelpdiipdaaLetN
import Derived.Test.YthjjdelpdiipdaaEntS2
import Derived.Test.YthjjdelpdiipdaaEntI3
import Derived.RegionTactic
import Derived.BigQuiet
namespace Go.Proofs.Ythjjdelpdiipdaa
set_option maxRecDepth 100000
open Go.RowKit

def ackM (e : EntM) : AckM := if entB e = true then ⟨e.cl, e.sq, e.idx, e.sq⟩ else ack0

set_option maxHeartbeats 3200000 in
theorem sAckOf_any (x0 x1 x2 x3 x4 x5 x6 x7 x8 : Int) (w : World) : Calls Try.prog 5 #[.agg #[.int .i64 x0, .int .i64 x1, .int .i64 x2, .int .i64 x3, .int .i64 x4, .int .i64 x5, .int .i64 x6, .int .i64 x7, .int .i64 x8]] w fun e w' => e = .returned (.agg #[.int .i64 (ackM ⟨x0, x1, x2, x3, x4, x5, x6, x7, x8⟩).cl, .int .i64 (ackM ⟨x0, x1, x2, x3, x4, x5, x6, x7, x8⟩).sq, .int .i64 (ackM ⟨x0, x1, x2, x3, x4, x5, x6, x7, x8⟩).ix, .int .i64 (ackM ⟨x0, x1, x2, x3, x4, x5, x6, x7, x8⟩).last]) ∧ Below w.heap.size w w' := by
  have S := Sep.nil w w.heap.size
  have c := Below.refl w.heap.size w
  replace S := S.boxAt c.size (w.heap.size) rfl #[.int .i64 x0, .int .i64 x1, .int .i64 x2, .int .i64 x3, .int .i64 x4, .int .i64 x5, .int .i64 x6, .int .i64 x7, .int .i64 x8] 31
  replace c := c.alloc c.size (.cells #[.int .i64 x0, .int .i64 x1, .int .i64 x2, .int .i64 x3, .int .i64 x4, .int .i64 x5, .int .i64 x6, .int .i64 x7, .int .i64 x8] 31)
  replace S := S.boxAt c.size (w.heap.size + 1) (by simp) #[.int .i64 0, .int .i64 0, .int .i64 0, .int .i64 0] 27
  replace c := c.alloc c.size (.cells #[.int .i64 0, .int .i64 0, .int .i64 0, .int .i64 0] 27)
  go_enter Try.func5, Try.ntmps5
  have f0 : ((w.alloc (.cells #[.int .i64 x0, .int .i64 x1, .int .i64 x2, .int .i64 x3, .int .i64 x4, .int .i64 x5, .int .i64 x6, .int .i64 x7, .int .i64 x8] 31)).alloc (.cells #[.int .i64 0, .int .i64 0, .int .i64 0, .int .i64 0] 27)).cell? ⟨w.heap.size, 0, none⟩ = some (.int .i64 x0) := (S.at_ 1 rfl).cell 0
  have f1 : ((w.alloc (.cells #[.int .i64 x0, .int .i64 x1, .int .i64 x2, .int .i64 x3, .int .i64 x4, .int .i64 x5, .int .i64 x6, .int .i64 x7, .int .i64 x8] 31)).alloc (.cells #[.int .i64 0, .int .i64 0, .int .i64 0, .int .i64 0] 27)).cell? ⟨w.heap.size, 1, none⟩ = some (.int .i64 x1) := (S.at_ 1 rfl).cell 1
  have f2 : ((w.alloc (.cells #[.int .i64 x0, .int .i64 x1, .int .i64 x2, .int .i64 x3, .int .i64 x4, .int .i64 x5, .int .i64 x6, .int .i64 x7, .int .i64 x8] 31)).alloc (.cells #[.int .i64 0, .int .i64 0, .int .i64 0, .int .i64 0] 27)).cell? ⟨w.heap.size, 2, none⟩ = some (.int .i64 x2) := (S.at_ 1 rfl).cell 2
  have f3 : ((w.alloc (.cells #[.int .i64 x0, .int .i64 x1, .int .i64 x2, .int .i64 x3, .int .i64 x4, .int .i64 x5, .int .i64 x6, .int .i64 x7, .int .i64 x8] 31)).alloc (.cells #[.int .i64 0, .int .i64 0, .int .i64 0, .int .i64 0] 27)).cell? ⟨w.heap.size, 3, none⟩ = some (.int .i64 x3) := (S.at_ 1 rfl).cell 3
  have f4 : ((w.alloc (.cells #[.int .i64 x0, .int .i64 x1, .int .i64 x2, .int .i64 x3, .int .i64 x4, .int .i64 x5, .int .i64 x6, .int .i64 x7, .int .i64 x8] 31)).alloc (.cells #[.int .i64 0, .int .i64 0, .int .i64 0, .int .i64 0] 27)).cell? ⟨w.heap.size, 4, none⟩ = some (.int .i64 x4) := (S.at_ 1 rfl).cell 4
  have f5 : ((w.alloc (.cells #[.int .i64 x0, .int .i64 x1, .int .i64 x2, .int .i64 x3, .int .i64 x4, .int .i64 x5, .int .i64 x6, .int .i64 x7, .int .i64 x8] 31)).alloc (.cells #[.int .i64 0, .int .i64 0, .int .i64 0, .int .i64 0] 27)).cell? ⟨w.heap.size, 5, none⟩ = some (.int .i64 x5) := (S.at_ 1 rfl).cell 5
  have f6 : ((w.alloc (.cells #[.int .i64 x0, .int .i64 x1, .int .i64 x2, .int .i64 x3, .int .i64 x4, .int .i64 x5, .int .i64 x6, .int .i64 x7, .int .i64 x8] 31)).alloc (.cells #[.int .i64 0, .int .i64 0, .int .i64 0, .int .i64 0] 27)).cell? ⟨w.heap.size, 6, none⟩ = some (.int .i64 x6) := (S.at_ 1 rfl).cell 6
  have f7 : ((w.alloc (.cells #[.int .i64 x0, .int .i64 x1, .int .i64 x2, .int .i64 x3, .int .i64 x4, .int .i64 x5, .int .i64 x6, .int .i64 x7, .int .i64 x8] 31)).alloc (.cells #[.int .i64 0, .int .i64 0, .int .i64 0, .int .i64 0] 27)).cell? ⟨w.heap.size, 7, none⟩ = some (.int .i64 x7) := (S.at_ 1 rfl).cell 7
  have f8 : ((w.alloc (.cells #[.int .i64 x0, .int .i64 x1, .int .i64 x2, .int .i64 x3, .int .i64 x4, .int .i64 x5, .int .i64 x6, .int .i64 x7, .int .i64 x8] 31)).alloc (.cells #[.int .i64 0, .int .i64 0, .int .i64 0, .int .i64 0] 27)).cell? ⟨w.heap.size, 8, none⟩ = some (.int .i64 x8) := (S.at_ 1 rfl).cell 8
  go_wp2_with fail
  generalize (w.alloc (.cells #[.int .i64 x0, .int .i64 x1, .int .i64 x2, .int .i64 x3, .int .i64 x4, .int .i64 x5, .int .i64 x6, .int .i64 x7, .int .i64 x8] 31)).alloc (.cells #[.int .i64 0, .int .i64 0, .int .i64 0, .int .i64 0] 27) = w1 at *
  refine (sEntryOk_any x0 x1 x2 x3 x4 x5 x6 x7 x8 _).mono ?_
  rintro e w2 ⟨rfl, b⟩
  replace c := c.trans (b.mono c.size)
  replace S := S.keep b
  clear b f0 f1 f2 f3 f4 f5 f6 f7 f8
  cases hok : entB (⟨x0, x1, x2, x3, x4, x5, x6, x7, x8⟩ : EntM)
  case false =>
    have HV := Lib.hid (show ackM ⟨x0, x1, x2, x3, x4, x5, x6, x7, x8⟩ = ack0 by unfold ackM; rw [hok]; rfl)
    clear hok
    have f9 : w2.cell? ⟨w.heap.size, 0, none⟩ = some (.int .i64 x0) := (S.at_ 1 rfl).cell 0
    have f10 : w2.cell? ⟨w.heap.size, 2, none⟩ = some (.int .i64 x2) := (S.at_ 1 rfl).cell 2
    have f11 : w2.cell? ⟨w.heap.size, 3, none⟩ = some (.int .i64 x3) := (S.at_ 1 rfl).cell 3
    have f12 : w2.cell? ⟨w.heap.size + 1, 0, none⟩ = some (.int .i64 0) := (S.at_ 0 rfl).cell 0
    have f13 := (S.at_ 0 rfl).free 0
    have f14 : w2.cell? ⟨w.heap.size + 1, 1, none⟩ = some (.int .i64 0) := (S.at_ 0 rfl).cell 1
    have f15 := (S.at_ 0 rfl).free 1
    have f16 : w2.cell? ⟨w.heap.size + 1, 2, none⟩ = some (.int .i64 0) := (S.at_ 0 rfl).cell 2
    have f17 := (S.at_ 0 rfl).free 2
    have f18 : w2.cell? ⟨w.heap.size + 1, 3, none⟩ = some (.int .i64 0) := (S.at_ 0 rfl).cell 3
    have f19 := (S.at_ 0 rfl).free 3
    replace S := S.put 0 rfl 0 (.int .i64 0)
    replace c := c.setCell (p := ⟨w.heap.size + 1, 0, none⟩) (by show w.heap.size ≤ w.heap.size + 1; omega) (.int .i64 0)
    replace S := S.put 0 rfl 1 (.int .i64 0)
    replace c := c.setCell (p := ⟨w.heap.size + 1, 1, none⟩) (by show w.heap.size ≤ w.heap.size + 1; omega) (.int .i64 0)
    replace S := S.put 0 rfl 2 (.int .i64 0)
    replace c := c.setCell (p := ⟨w.heap.size + 1, 2, none⟩) (by show w.heap.size ≤ w.heap.size + 1; omega) (.int .i64 0)
    replace S := S.put 0 rfl 3 (.int .i64 0)
    replace c := c.setCell (p := ⟨w.heap.size + 1, 3, none⟩) (by show w.heap.size ≤ w.heap.size + 1; omega) (.int .i64 0)
    have r0 := Lib.hid ((S.at_ 0 rfl).cell 0)
    have r1 := Lib.hid ((S.at_ 0 rfl).cell 1)
    have r2 := Lib.hid ((S.at_ 0 rfl).cell 2)
    have r3 := Lib.hid ((S.at_ 0 rfl).cell 3)
    have CC := Lib.hid c
    clear S c
    go_wp2
    exact bodyPost_ret (v := .agg #[.int .i64 0, .int .i64 0, .int .i64 0, .int .i64 0]) (by simp [results, Try.results5, go_sem, r0.out, r1.out, r2.out, r3.out]) rfl ⟨by first | (rw [HV.out]; done) | (rw [HV.out]; rfl), CC.out⟩
  case true =>
    have HV := Lib.hid (show ackM ⟨x0, x1, x2, x3, x4, x5, x6, x7, x8⟩ = ⟨x2, x3, x0, x3⟩ by unfold ackM; rw [hok]; rfl)
    clear hok
    have f9 : w2.cell? ⟨w.heap.size, 0, none⟩ = some (.int .i64 x0) := (S.at_ 1 rfl).cell 0
    have f10 : w2.cell? ⟨w.heap.size, 2, none⟩ = some (.int .i64 x2) := (S.at_ 1 rfl).cell 2
    have f11 : w2.cell? ⟨w.heap.size, 3, none⟩ = some (.int .i64 x3) := (S.at_ 1 rfl).cell 3
    have f12 : w2.cell? ⟨w.heap.size + 1, 0, none⟩ = some (.int .i64 0) := (S.at_ 0 rfl).cell 0
    have f13 := (S.at_ 0 rfl).free 0
    have f14 : w2.cell? ⟨w.heap.size + 1, 1, none⟩ = some (.int .i64 0) := (S.at_ 0 rfl).cell 1
    have f15 := (S.at_ 0 rfl).free 1
    have f16 : w2.cell? ⟨w.heap.size + 1, 2, none⟩ = some (.int .i64 0) := (S.at_ 0 rfl).cell 2
    have f17 := (S.at_ 0 rfl).free 2
    have f18 : w2.cell? ⟨w.heap.size + 1, 3, none⟩ = some (.int .i64 0) := (S.at_ 0 rfl).cell 3
    have f19 := (S.at_ 0 rfl).free 3
    replace S := S.put 0 rfl 0 (.int .i64 x2)
    replace c := c.setCell (p := ⟨w.heap.size + 1, 0, none⟩) (by show w.heap.size ≤ w.heap.size + 1; omega) (.int .i64 x2)
    replace S := S.put 0 rfl 1 (.int .i64 x3)
    replace c := c.setCell (p := ⟨w.heap.size + 1, 1, none⟩) (by show w.heap.size ≤ w.heap.size + 1; omega) (.int .i64 x3)
    replace S := S.put 0 rfl 2 (.int .i64 x0)
    replace c := c.setCell (p := ⟨w.heap.size + 1, 2, none⟩) (by show w.heap.size ≤ w.heap.size + 1; omega) (.int .i64 x0)
    replace S := S.put 0 rfl 3 (.int .i64 x3)
    replace c := c.setCell (p := ⟨w.heap.size + 1, 3, none⟩) (by show w.heap.size ≤ w.heap.size + 1; omega) (.int .i64 x3)
    have r0 := Lib.hid ((S.at_ 0 rfl).cell 0)
    have r1 := Lib.hid ((S.at_ 0 rfl).cell 1)
    have r2 := Lib.hid ((S.at_ 0 rfl).cell 2)
    have r3 := Lib.hid ((S.at_ 0 rfl).cell 3)
    have CC := Lib.hid c
    clear S c
    go_wp2
    exact bodyPost_ret (v := .agg #[.int .i64 x2, .int .i64 x3, .int .i64 x0, .int .i64 x3]) (by simp [results, Try.results5, go_sem, r0.out, r1.out, r2.out, r3.out]) rfl ⟨by first | (rw [HV.out]; done) | (rw [HV.out]; rfl), CC.out⟩

set_option maxHeartbeats 3200000 in
theorem iAckOf_any (x0 x1 x2 x3 x4 x5 x6 x7 x8 : Int) (w : World) : Calls Try.prog 7 #[.agg #[.int .i64 x0, .int .i64 x1, .int .i64 x2, .int .i64 x3, .int .i64 x4, .int .i64 x5, .int .i64 x6, .int .i64 x7, .int .i64 x8]] w fun e w' => e = .returned (.agg #[.int .i64 (ackM ⟨x0, x1, x2, x3, x4, x5, x6, x7, x8⟩).cl, .int .i64 (ackM ⟨x0, x1, x2, x3, x4, x5, x6, x7, x8⟩).sq, .int .i64 (ackM ⟨x0, x1, x2, x3, x4, x5, x6, x7, x8⟩).ix, .int .i64 (ackM ⟨x0, x1, x2, x3, x4, x5, x6, x7, x8⟩).last]) ∧ Below w.heap.size w w' := by
  have S := Sep.nil w w.heap.size
  have c := Below.refl w.heap.size w
  replace S := S.boxAt c.size (w.heap.size) rfl #[.int .i64 x0, .int .i64 x1, .int .i64 x2, .int .i64 x3, .int .i64 x4, .int .i64 x5, .int .i64 x6, .int .i64 x7, .int .i64 x8] 31
  replace c := c.alloc c.size (.cells #[.int .i64 x0, .int .i64 x1, .int .i64 x2, .int .i64 x3, .int .i64 x4, .int .i64 x5, .int .i64 x6, .int .i64 x7, .int .i64 x8] 31)
  replace S := S.boxAt c.size (w.heap.size + 1) (by simp) #[.int .i64 0, .int .i64 0, .int .i64 0, .int .i64 0] 27
  replace c := c.alloc c.size (.cells #[.int .i64 0, .int .i64 0, .int .i64 0, .int .i64 0] 27)
  go_enter Try.func7, Try.ntmps7
  have f0 : ((w.alloc (.cells #[.int .i64 x0, .int .i64 x1, .int .i64 x2, .int .i64 x3, .int .i64 x4, .int .i64 x5, .int .i64 x6, .int .i64 x7, .int .i64 x8] 31)).alloc (.cells #[.int .i64 0, .int .i64 0, .int .i64 0, .int .i64 0] 27)).cell? ⟨w.heap.size, 0, none⟩ = some (.int .i64 x0) := (S.at_ 1 rfl).cell 0
  have f1 : ((w.alloc (.cells #[.int .i64 x0, .int .i64 x1, .int .i64 x2, .int .i64 x3, .int .i64 x4, .int .i64 x5, .int .i64 x6, .int .i64 x7, .int .i64 x8] 31)).alloc (.cells #[.int .i64 0, .int .i64 0, .int .i64 0, .int .i64 0] 27)).cell? ⟨w.heap.size, 1, none⟩ = some (.int .i64 x1) := (S.at_ 1 rfl).cell 1
  have f2 : ((w.alloc (.cells #[.int .i64 x0, .int .i64 x1, .int .i64 x2, .int .i64 x3, .int .i64 x4, .int .i64 x5, .int .i64 x6, .int .i64 x7, .int .i64 x8] 31)).alloc (.cells #[.int .i64 0, .int .i64 0, .int .i64 0, .int .i64 0] 27)).cell? ⟨w.heap.size, 2, none⟩ = some (.int .i64 x2) := (S.at_ 1 rfl).cell 2
  have f3 : ((w.alloc (.cells #[.int .i64 x0, .int .i64 x1, .int .i64 x2, .int .i64 x3, .int .i64 x4, .int .i64 x5, .int .i64 x6, .int .i64 x7, .int .i64 x8] 31)).alloc (.cells #[.int .i64 0, .int .i64 0, .int .i64 0, .int .i64 0] 27)).cell? ⟨w.heap.size, 3, none⟩ = some (.int .i64 x3) := (S.at_ 1 rfl).cell 3
  have f4 : ((w.alloc (.cells #[.int .i64 x0, .int .i64 x1, .int .i64 x2, .int .i64 x3, .int .i64 x4, .int .i64 x5, .int .i64 x6, .int .i64 x7, .int .i64 x8] 31)).alloc (.cells #[.int .i64 0, .int .i64 0, .int .i64 0, .int .i64 0] 27)).cell? ⟨w.heap.size, 4, none⟩ = some (.int .i64 x4) := (S.at_ 1 rfl).cell 4
  have f5 : ((w.alloc (.cells #[.int .i64 x0, .int .i64 x1, .int .i64 x2, .int .i64 x3, .int .i64 x4, .int .i64 x5, .int .i64 x6, .int .i64 x7, .int .i64 x8] 31)).alloc (.cells #[.int .i64 0, .int .i64 0, .int .i64 0, .int .i64 0] 27)).cell? ⟨w.heap.size, 5, none⟩ = some (.int .i64 x5) := (S.at_ 1 rfl).cell 5
  have f6 : ((w.alloc (.cells #[.int .i64 x0, .int .i64 x1, .int .i64 x2, .int .i64 x3, .int .i64 x4, .int .i64 x5, .int .i64 x6, .int .i64 x7, .int .i64 x8] 31)).alloc (.cells #[.int .i64 0, .int .i64 0, .int .i64 0, .int .i64 0] 27)).cell? ⟨w.heap.size, 6, none⟩ = some (.int .i64 x6) := (S.at_ 1 rfl).cell 6
  have f7 : ((w.alloc (.cells #[.int .i64 x0, .int .i64 x1, .int .i64 x2, .int .i64 x3, .int .i64 x4, .int .i64 x5, .int .i64 x6, .int .i64 x7, .int .i64 x8] 31)).alloc (.cells #[.int .i64 0, .int .i64 0, .int .i64 0, .int .i64 0] 27)).cell? ⟨w.heap.size, 7, none⟩ = some (.int .i64 x7) := (S.at_ 1 rfl).cell 7
  have f8 : ((w.alloc (.cells #[.int .i64 x0, .int .i64 x1, .int .i64 x2, .int .i64 x3, .int .i64 x4, .int .i64 x5, .int .i64 x6, .int .i64 x7, .int .i64 x8] 31)).alloc (.cells #[.int .i64 0, .int .i64 0, .int .i64 0, .int .i64 0] 27)).cell? ⟨w.heap.size, 8, none⟩ = some (.int .i64 x8) := (S.at_ 1 rfl).cell 8
  go_wp2_with fail
  generalize (w.alloc (.cells #[.int .i64 x0, .int .i64 x1, .int .i64 x2, .int .i64 x3, .int .i64 x4, .int .i64 x5, .int .i64 x6, .int .i64 x7, .int .i64 x8] 31)).alloc (.cells #[.int .i64 0, .int .i64 0, .int .i64 0, .int .i64 0] 27) = w1 at *
  refine (iEntryOk_any x0 x1 x2 x3 x4 x5 x6 x7 x8 _).mono ?_
  rintro e w2 ⟨rfl, b⟩
  replace c := c.trans (b.mono c.size)
  replace S := S.keep b
  clear b f0 f1 f2 f3 f4 f5 f6 f7 f8
  cases hok : entB (⟨x0, x1, x2, x3, x4, x5, x6, x7, x8⟩ : EntM)
  case false =>
    have HV := Lib.hid (show ackM ⟨x0, x1, x2, x3, x4, x5, x6, x7, x8⟩ = ack0 by unfold ackM; rw [hok]; rfl)
    clear hok
    have f9 : w2.cell? ⟨w.heap.size, 0, none⟩ = some (.int .i64 x0) := (S.at_ 1 rfl).cell 0
    have f10 : w2.cell? ⟨w.heap.size, 2, none⟩ = some (.int .i64 x2) := (S.at_ 1 rfl).cell 2
    have f11 : w2.cell? ⟨w.heap.size, 3, none⟩ = some (.int .i64 x3) := (S.at_ 1 rfl).cell 3
    have f12 : w2.cell? ⟨w.heap.size + 1, 0, none⟩ = some (.int .i64 0) := (S.at_ 0 rfl).cell 0
    have f13 := (S.at_ 0 rfl).free 0
    have f14 : w2.cell? ⟨w.heap.size + 1, 1, none⟩ = some (.int .i64 0) := (S.at_ 0 rfl).cell 1
    have f15 := (S.at_ 0 rfl).free 1
    have f16 : w2.cell? ⟨w.heap.size + 1, 2, none⟩ = some (.int .i64 0) := (S.at_ 0 rfl).cell 2
    have f17 := (S.at_ 0 rfl).free 2
    have f18 : w2.cell? ⟨w.heap.size + 1, 3, none⟩ = some (.int .i64 0) := (S.at_ 0 rfl).cell 3
    have f19 := (S.at_ 0 rfl).free 3
    replace S := S.put 0 rfl 0 (.int .i64 0)
    replace c := c.setCell (p := ⟨w.heap.size + 1, 0, none⟩) (by show w.heap.size ≤ w.heap.size + 1; omega) (.int .i64 0)
    replace S := S.put 0 rfl 1 (.int .i64 0)
    replace c := c.setCell (p := ⟨w.heap.size + 1, 1, none⟩) (by show w.heap.size ≤ w.heap.size + 1; omega) (.int .i64 0)
    replace S := S.put 0 rfl 2 (.int .i64 0)
    replace c := c.setCell (p := ⟨w.heap.size + 1, 2, none⟩) (by show w.heap.size ≤ w.heap.size + 1; omega) (.int .i64 0)
    replace S := S.put 0 rfl 3 (.int .i64 0)
    replace c := c.setCell (p := ⟨w.heap.size + 1, 3, none⟩) (by show w.heap.size ≤ w.heap.size + 1; omega) (.int .i64 0)
    have r0 := Lib.hid ((S.at_ 0 rfl).cell 0)
    have r1 := Lib.hid ((S.at_ 0 rfl).cell 1)
    have r2 := Lib.hid ((S.at_ 0 rfl).cell 2)
    have r3 := Lib.hid ((S.at_ 0 rfl).cell 3)
    have CC := Lib.hid c
    clear S c
    go_wp2
    exact bodyPost_ret (v := .agg #[.int .i64 0, .int .i64 0, .int .i64 0, .int .i64 0]) (by simp [results, Try.results7, go_sem, r0.out, r1.out, r2.out, r3.out]) rfl ⟨by first | (rw [HV.out]; done) | (rw [HV.out]; rfl), CC.out⟩
  case true =>
    have HV := Lib.hid (show ackM ⟨x0, x1, x2, x3, x4, x5, x6, x7, x8⟩ = ⟨x2, x3, x0, x3⟩ by unfold ackM; rw [hok]; rfl)
    clear hok
    have f9 : w2.cell? ⟨w.heap.size, 0, none⟩ = some (.int .i64 x0) := (S.at_ 1 rfl).cell 0
    have f10 : w2.cell? ⟨w.heap.size, 2, none⟩ = some (.int .i64 x2) := (S.at_ 1 rfl).cell 2
    have f11 : w2.cell? ⟨w.heap.size, 3, none⟩ = some (.int .i64 x3) := (S.at_ 1 rfl).cell 3
    have f12 : w2.cell? ⟨w.heap.size + 1, 0, none⟩ = some (.int .i64 0) := (S.at_ 0 rfl).cell 0
    have f13 := (S.at_ 0 rfl).free 0
    have f14 : w2.cell? ⟨w.heap.size + 1, 1, none⟩ = some (.int .i64 0) := (S.at_ 0 rfl).cell 1
    have f15 := (S.at_ 0 rfl).free 1
    have f16 : w2.cell? ⟨w.heap.size + 1, 2, none⟩ = some (.int .i64 0) := (S.at_ 0 rfl).cell 2
    have f17 := (S.at_ 0 rfl).free 2
    have f18 : w2.cell? ⟨w.heap.size + 1, 3, none⟩ = some (.int .i64 0) := (S.at_ 0 rfl).cell 3
    have f19 := (S.at_ 0 rfl).free 3
    replace S := S.put 0 rfl 0 (.int .i64 x2)
    replace c := c.setCell (p := ⟨w.heap.size + 1, 0, none⟩) (by show w.heap.size ≤ w.heap.size + 1; omega) (.int .i64 x2)
    replace S := S.put 0 rfl 1 (.int .i64 x3)
    replace c := c.setCell (p := ⟨w.heap.size + 1, 1, none⟩) (by show w.heap.size ≤ w.heap.size + 1; omega) (.int .i64 x3)
    replace S := S.put 0 rfl 2 (.int .i64 x0)
    replace c := c.setCell (p := ⟨w.heap.size + 1, 2, none⟩) (by show w.heap.size ≤ w.heap.size + 1; omega) (.int .i64 x0)
    replace S := S.put 0 rfl 3 (.int .i64 x3)
    replace c := c.setCell (p := ⟨w.heap.size + 1, 3, none⟩) (by show w.heap.size ≤ w.heap.size + 1; omega) (.int .i64 x3)
    have r0 := Lib.hid ((S.at_ 0 rfl).cell 0)
    have r1 := Lib.hid ((S.at_ 0 rfl).cell 1)
    have r2 := Lib.hid ((S.at_ 0 rfl).cell 2)
    have r3 := Lib.hid ((S.at_ 0 rfl).cell 3)
    have CC := Lib.hid c
    clear S c
    go_wp2
    exact bodyPost_ret (v := .agg #[.int .i64 x2, .int .i64 x3, .int .i64 x0, .int .i64 x3]) (by simp [results, Try.results7, go_sem, r0.out, r1.out, r2.out, r3.out]) rfl ⟨by first | (rw [HV.out]; done) | (rw [HV.out]; rfl), CC.out⟩

end Go.Proofs.Ythjjdelpdiipdaa
