/-
  Messages as plain data, and the laws' helpers for them (by program, wip/gen/genlet0.py).
-/
import Derived.Test.YtmalpkbdaghemaaEnt
import Derived.RegionTactic
import Derived.BigQuiet
namespace Go.Proofs.Ytmalpkbdaghemaa
set_option maxRecDepth 100000
open Go.RowKit

structure AckM where
  cl : Int
  sq : Int
  ix : Int
  last : Int
def ackC (x : AckM) : List Dat := [.int x.cl, .int x.sq, .int x.ix, .int x.last]
theorem ackC_len (x : AckM) : (ackC x).length = 4 := rfl

set_option maxHeartbeats 1600000 in
theorem toAck_any (x0 x1 x2 x3 : Int) (w : World) :
    Calls Try.prog 16 #[.agg #[.int .i64 x0, .int .i64 x1, .int .i64 x2, .int .i64 x3]] w fun e w' => e = .returned (.agg #[.int .i64 x0, .int .i64 x1, .int .i64 x2, .int .i64 x3]) ∧ Below w.heap.size w w' := by
  have C := Lib.hid ((((Below.refl w.heap.size w).alloc (Nat.le_refl _) (.cells #[.int .i64 x0, .int .i64 x1, .int .i64 x2, .int .i64 x3] 36)).alloc (by simp) (.cells #[.int .i64 x0, .int .i64 x1, .int .i64 x2, .int .i64 x3] 38)).alloc (by simp; omega) (.cells #[.int .i64 x0, .int .i64 x1, .int .i64 x2, .int .i64 x3] 38))
  go_enter Try.func16, Try.ntmps16
  go_wp2
  exact bodyPost_ret (v := .agg #[.int .i64 x0, .int .i64 x1, .int .i64 x2, .int .i64 x3]) (by simp [results, Try.results16, go_sem]) rfl ⟨rfl, C.out⟩

structure ReadM where
  cl : Int
  sq : Int
  key : Int
  least : Int
def readC (x : ReadM) : List Dat := [.int x.cl, .int x.sq, .int x.key, .int x.least]
theorem readC_len (x : ReadM) : (readC x).length = 4 := rfl

set_option maxHeartbeats 1600000 in
theorem toRead_any (x0 x1 x2 x3 : Int) (w : World) :
    Calls Try.prog 23 #[.agg #[.int .i64 x0, .int .i64 x1, .int .i64 x2, .int .i64 x3]] w fun e w' => e = .returned (.agg #[.int .i64 x0, .int .i64 x1, .int .i64 x2, .int .i64 x3]) ∧ Below w.heap.size w w' := by
  have C := Lib.hid ((((Below.refl w.heap.size w).alloc (Nat.le_refl _) (.cells #[.int .i64 x0, .int .i64 x1, .int .i64 x2, .int .i64 x3] 44)).alloc (by simp) (.cells #[.int .i64 x0, .int .i64 x1, .int .i64 x2, .int .i64 x3] 46)).alloc (by simp; omega) (.cells #[.int .i64 x0, .int .i64 x1, .int .i64 x2, .int .i64 x3] 46))
  go_enter Try.func23, Try.ntmps23
  go_wp2
  exact bodyPost_ret (v := .agg #[.int .i64 x0, .int .i64 x1, .int .i64 x2, .int .i64 x3]) (by simp [results, Try.results23, go_sem]) rfl ⟨rfl, C.out⟩

structure ValueM where
  cl : Int
  sq : Int
  ix : Int
  has : Int
  val : Int
def valueC (x : ValueM) : List Dat := [.int x.cl, .int x.sq, .int x.ix, .int x.has, .int x.val]
theorem valueC_len (x : ValueM) : (valueC x).length = 5 := rfl

set_option maxHeartbeats 1600000 in
theorem toValue_any (x0 x1 x2 x3 x4 : Int) (w : World) :
    Calls Try.prog 26 #[.agg #[.int .i64 x0, .int .i64 x1, .int .i64 x2, .int .i64 x3, .int .i64 x4]] w fun e w' => e = .returned (.agg #[.int .i64 x0, .int .i64 x1, .int .i64 x2, .int .i64 x3, .int .i64 x4]) ∧ Below w.heap.size w w' := by
  have C := Lib.hid ((((Below.refl w.heap.size w).alloc (Nat.le_refl _) (.cells #[.int .i64 x0, .int .i64 x1, .int .i64 x2, .int .i64 x3, .int .i64 x4] 50)).alloc (by simp) (.cells #[.int .i64 x0, .int .i64 x1, .int .i64 x2, .int .i64 x3, .int .i64 x4] 52)).alloc (by simp; omega) (.cells #[.int .i64 x0, .int .i64 x1, .int .i64 x2, .int .i64 x3, .int .i64 x4] 52))
  go_enter Try.func26, Try.ntmps26
  go_wp2
  exact bodyPost_ret (v := .agg #[.int .i64 x0, .int .i64 x1, .int .i64 x2, .int .i64 x3, .int .i64 x4]) (by simp [results, Try.results26, go_sem]) rfl ⟨rfl, C.out⟩

structure AskM where
  cl : Int
  sq : Int
  kd : Int
  oa : Int
  ob : Int
  oc : Int
  od : Int
def askC (x : AskM) : List Dat := [.int x.cl, .int x.sq, .int x.kd, .int x.oa, .int x.ob, .int x.oc, .int x.od]
theorem askC_len (x : AskM) : (askC x).length = 7 := rfl

set_option maxHeartbeats 3200000 in
theorem toAsk_any (x0 x1 x2 x3 x4 x5 x6 : Int) (w : World) :
    Calls Try.prog 10 #[.agg #[.int .i64 x0, .int .i64 x1, .int .i64 x2, .int .i64 x3, .int .i64 x4, .int .i64 x5, .int .i64 x6]] w fun e w' => e = .returned (.agg #[.int .i64 x0, .int .i64 x1, .int .i64 x2, .int .i64 x3, .int .i64 x4, .int .i64 x5, .int .i64 x6]) ∧ Below w.heap.size w w' := by
  have S := Sep.nil w w.heap.size
  have c := Below.refl w.heap.size w
  replace S := S.boxAt c.size (w.heap.size) rfl #[.int .i64 x0, .int .i64 x1, .int .i64 x2, .int .i64 x3, .int .i64 x4, .int .i64 x5, .int .i64 x6] 25
  replace c := c.alloc c.size (.cells #[.int .i64 x0, .int .i64 x1, .int .i64 x2, .int .i64 x3, .int .i64 x4, .int .i64 x5, .int .i64 x6] 25)
  replace S := S.boxAt c.size (w.heap.size + 1) (by simp) #[.int .i64 0, .int .i64 0, .int .i64 0, .int .i64 0, .int .i64 0, .int .i64 0, .int .i64 0] 30
  replace c := c.alloc c.size (.cells #[.int .i64 0, .int .i64 0, .int .i64 0, .int .i64 0, .int .i64 0, .int .i64 0, .int .i64 0] 30)
  replace S := S.boxAt c.size (w.heap.size + 1 + 1) (by simp) #[.int .i64 x0, .int .i64 x1, .int .i64 0, .int .i64 0, .int .i64 0, .int .i64 0, .int .i64 0] 30
  replace c := c.alloc c.size (.cells #[.int .i64 x0, .int .i64 x1, .int .i64 0, .int .i64 0, .int .i64 0, .int .i64 0, .int .i64 0] 30)
  go_enter Try.func10, Try.ntmps10
  have f0 : (((w.alloc (.cells #[.int .i64 x0, .int .i64 x1, .int .i64 x2, .int .i64 x3, .int .i64 x4, .int .i64 x5, .int .i64 x6] 25)).alloc (.cells #[.int .i64 0, .int .i64 0, .int .i64 0, .int .i64 0, .int .i64 0, .int .i64 0, .int .i64 0] 30)).alloc (.cells #[.int .i64 x0, .int .i64 x1, .int .i64 0, .int .i64 0, .int .i64 0, .int .i64 0, .int .i64 0] 30)).cell? ⟨w.heap.size, 2, none⟩ = some (.int .i64 x2) := (S.at_ 2 rfl).cell 2
  have f1 : (((w.alloc (.cells #[.int .i64 x0, .int .i64 x1, .int .i64 x2, .int .i64 x3, .int .i64 x4, .int .i64 x5, .int .i64 x6] 25)).alloc (.cells #[.int .i64 0, .int .i64 0, .int .i64 0, .int .i64 0, .int .i64 0, .int .i64 0, .int .i64 0] 30)).alloc (.cells #[.int .i64 x0, .int .i64 x1, .int .i64 0, .int .i64 0, .int .i64 0, .int .i64 0, .int .i64 0] 30)).cell? ⟨w.heap.size, 3, none⟩ = some (.int .i64 x3) := (S.at_ 2 rfl).cell 3
  have f2 : (((w.alloc (.cells #[.int .i64 x0, .int .i64 x1, .int .i64 x2, .int .i64 x3, .int .i64 x4, .int .i64 x5, .int .i64 x6] 25)).alloc (.cells #[.int .i64 0, .int .i64 0, .int .i64 0, .int .i64 0, .int .i64 0, .int .i64 0, .int .i64 0] 30)).alloc (.cells #[.int .i64 x0, .int .i64 x1, .int .i64 0, .int .i64 0, .int .i64 0, .int .i64 0, .int .i64 0] 30)).cell? ⟨w.heap.size, 4, none⟩ = some (.int .i64 x4) := (S.at_ 2 rfl).cell 4
  have f3 : (((w.alloc (.cells #[.int .i64 x0, .int .i64 x1, .int .i64 x2, .int .i64 x3, .int .i64 x4, .int .i64 x5, .int .i64 x6] 25)).alloc (.cells #[.int .i64 0, .int .i64 0, .int .i64 0, .int .i64 0, .int .i64 0, .int .i64 0, .int .i64 0] 30)).alloc (.cells #[.int .i64 x0, .int .i64 x1, .int .i64 0, .int .i64 0, .int .i64 0, .int .i64 0, .int .i64 0] 30)).cell? ⟨w.heap.size, 5, none⟩ = some (.int .i64 x5) := (S.at_ 2 rfl).cell 5
  have f4 : (((w.alloc (.cells #[.int .i64 x0, .int .i64 x1, .int .i64 x2, .int .i64 x3, .int .i64 x4, .int .i64 x5, .int .i64 x6] 25)).alloc (.cells #[.int .i64 0, .int .i64 0, .int .i64 0, .int .i64 0, .int .i64 0, .int .i64 0, .int .i64 0] 30)).alloc (.cells #[.int .i64 x0, .int .i64 x1, .int .i64 0, .int .i64 0, .int .i64 0, .int .i64 0, .int .i64 0] 30)).cell? ⟨w.heap.size, 6, none⟩ = some (.int .i64 x6) := (S.at_ 2 rfl).cell 6
  go_wp2_with fail
  generalize ((w.alloc (.cells #[.int .i64 x0, .int .i64 x1, .int .i64 x2, .int .i64 x3, .int .i64 x4, .int .i64 x5, .int .i64 x6] 25)).alloc (.cells #[.int .i64 0, .int .i64 0, .int .i64 0, .int .i64 0, .int .i64 0, .int .i64 0, .int .i64 0] 30)).alloc (.cells #[.int .i64 x0, .int .i64 x1, .int .i64 0, .int .i64 0, .int .i64 0, .int .i64 0, .int .i64 0] 30) = w1 at *
  refine (toOp_any x2 x3 x4 x5 x6 _).mono ?_
  rintro e w2 ⟨rfl, b⟩
  replace c := c.trans (b.mono c.size)
  replace S := S.keep b
  clear b f0 f1 f2 f3 f4
  have f5 : w2.cell? ⟨w.heap.size + 1 + 1, 0, none⟩ = some (.int .i64 x0) := (S.at_ 0 rfl).cell 0
  have f6 := (S.at_ 0 rfl).free 0
  have f7 : w2.cell? ⟨w.heap.size + 1 + 1, 1, none⟩ = some (.int .i64 x1) := (S.at_ 0 rfl).cell 1
  have f8 := (S.at_ 0 rfl).free 1
  have f9 : w2.cell? ⟨w.heap.size + 1 + 1, 2, none⟩ = some (.int .i64 0) := (S.at_ 0 rfl).cell 2
  have f10 := (S.at_ 0 rfl).free 2
  have f11 : w2.cell? ⟨w.heap.size + 1 + 1, 3, none⟩ = some (.int .i64 0) := (S.at_ 0 rfl).cell 3
  have f12 := (S.at_ 0 rfl).free 3
  have f13 : w2.cell? ⟨w.heap.size + 1 + 1, 4, none⟩ = some (.int .i64 0) := (S.at_ 0 rfl).cell 4
  have f14 := (S.at_ 0 rfl).free 4
  have f15 : w2.cell? ⟨w.heap.size + 1 + 1, 5, none⟩ = some (.int .i64 0) := (S.at_ 0 rfl).cell 5
  have f16 := (S.at_ 0 rfl).free 5
  have f17 : w2.cell? ⟨w.heap.size + 1 + 1, 6, none⟩ = some (.int .i64 0) := (S.at_ 0 rfl).cell 6
  have f18 := (S.at_ 0 rfl).free 6
  have f19 : w2.cell? ⟨w.heap.size + 1, 0, none⟩ = some (.int .i64 0) := (S.at_ 1 rfl).cell 0
  have f20 := (S.at_ 1 rfl).free 0
  have f21 : w2.cell? ⟨w.heap.size + 1, 1, none⟩ = some (.int .i64 0) := (S.at_ 1 rfl).cell 1
  have f22 := (S.at_ 1 rfl).free 1
  have f23 : w2.cell? ⟨w.heap.size + 1, 2, none⟩ = some (.int .i64 0) := (S.at_ 1 rfl).cell 2
  have f24 := (S.at_ 1 rfl).free 2
  have f25 : w2.cell? ⟨w.heap.size + 1, 3, none⟩ = some (.int .i64 0) := (S.at_ 1 rfl).cell 3
  have f26 := (S.at_ 1 rfl).free 3
  have f27 : w2.cell? ⟨w.heap.size + 1, 4, none⟩ = some (.int .i64 0) := (S.at_ 1 rfl).cell 4
  have f28 := (S.at_ 1 rfl).free 4
  have f29 : w2.cell? ⟨w.heap.size + 1, 5, none⟩ = some (.int .i64 0) := (S.at_ 1 rfl).cell 5
  have f30 := (S.at_ 1 rfl).free 5
  have f31 : w2.cell? ⟨w.heap.size + 1, 6, none⟩ = some (.int .i64 0) := (S.at_ 1 rfl).cell 6
  have f32 := (S.at_ 1 rfl).free 6
  replace S := S.put 0 rfl 2 (.int .i64 x2)
  replace c := c.setCell (p := ⟨w.heap.size + 1 + 1, 2, none⟩) (by show w.heap.size ≤ w.heap.size + 1 + 1; omega) (.int .i64 x2)
  replace S := S.put 0 rfl 3 (.int .i64 x3)
  replace c := c.setCell (p := ⟨w.heap.size + 1 + 1, 3, none⟩) (by show w.heap.size ≤ w.heap.size + 1 + 1; omega) (.int .i64 x3)
  replace S := S.put 0 rfl 4 (.int .i64 x4)
  replace c := c.setCell (p := ⟨w.heap.size + 1 + 1, 4, none⟩) (by show w.heap.size ≤ w.heap.size + 1 + 1; omega) (.int .i64 x4)
  replace S := S.put 0 rfl 5 (.int .i64 x5)
  replace c := c.setCell (p := ⟨w.heap.size + 1 + 1, 5, none⟩) (by show w.heap.size ≤ w.heap.size + 1 + 1; omega) (.int .i64 x5)
  replace S := S.put 0 rfl 6 (.int .i64 x6)
  replace c := c.setCell (p := ⟨w.heap.size + 1 + 1, 6, none⟩) (by show w.heap.size ≤ w.heap.size + 1 + 1; omega) (.int .i64 x6)
  replace S := S.put 1 rfl 0 (.int .i64 x0)
  replace c := c.setCell (p := ⟨w.heap.size + 1, 0, none⟩) (by show w.heap.size ≤ w.heap.size + 1; omega) (.int .i64 x0)
  replace S := S.put 1 rfl 1 (.int .i64 x1)
  replace c := c.setCell (p := ⟨w.heap.size + 1, 1, none⟩) (by show w.heap.size ≤ w.heap.size + 1; omega) (.int .i64 x1)
  replace S := S.put 1 rfl 2 (.int .i64 x2)
  replace c := c.setCell (p := ⟨w.heap.size + 1, 2, none⟩) (by show w.heap.size ≤ w.heap.size + 1; omega) (.int .i64 x2)
  replace S := S.put 1 rfl 3 (.int .i64 x3)
  replace c := c.setCell (p := ⟨w.heap.size + 1, 3, none⟩) (by show w.heap.size ≤ w.heap.size + 1; omega) (.int .i64 x3)
  replace S := S.put 1 rfl 4 (.int .i64 x4)
  replace c := c.setCell (p := ⟨w.heap.size + 1, 4, none⟩) (by show w.heap.size ≤ w.heap.size + 1; omega) (.int .i64 x4)
  replace S := S.put 1 rfl 5 (.int .i64 x5)
  replace c := c.setCell (p := ⟨w.heap.size + 1, 5, none⟩) (by show w.heap.size ≤ w.heap.size + 1; omega) (.int .i64 x5)
  replace S := S.put 1 rfl 6 (.int .i64 x6)
  replace c := c.setCell (p := ⟨w.heap.size + 1, 6, none⟩) (by show w.heap.size ≤ w.heap.size + 1; omega) (.int .i64 x6)
  have C := Lib.hid c
  have HF := Lib.hid S
  have r0 := Lib.hid ((S.at_ 1 rfl).cell 0)
  have r1 := Lib.hid ((S.at_ 1 rfl).cell 1)
  have r2 := Lib.hid ((S.at_ 1 rfl).cell 2)
  have r3 := Lib.hid ((S.at_ 1 rfl).cell 3)
  have r4 := Lib.hid ((S.at_ 1 rfl).cell 4)
  have r5 := Lib.hid ((S.at_ 1 rfl).cell 5)
  have r6 := Lib.hid ((S.at_ 1 rfl).cell 6)
  clear S c
  go_wp2
  exact bodyPost_ret (v := .agg #[.int .i64 x0, .int .i64 x1, .int .i64 x2, .int .i64 x3, .int .i64 x4, .int .i64 x5, .int .i64 x6]) (by simp [results, Try.results10, go_sem, r0.out, r1.out, r2.out, r3.out, r4.out, r5.out, r6.out]) rfl ⟨rfl, C.out⟩

end Go.Proofs.Ytmalpkbdaghemaa
