/-
  Messages as plain data, and the laws' helpers for them (by program, wip/gen/genlet0.py).
-/
import Derived.Test.YtgjlfambaiakbaaEnt
import Derived.RegionTactic
import Derived.BigQuiet
namespace Go.Proofs.Ytgjlfambaiakbaa
set_option maxRecDepth 100000
open Go.RowKit

structure AckM where
  cl : Int
  sq : Int
  ix : Int
  last : Int
def ackC (x : AckM) : List Dat := [.int x.cl, .int x.sq, .int x.ix, .int x.last]
theorem ackC_len (x : AckM) : (ackC x).length = 4 := rfl

set_option maxHeartbeats 1600000 in
theorem eqAck_one (x0 x1 x2 x3 : Int) (w : World) :
    Calls Try.prog 16 #[.agg #[.int .i64 x0, .int .i64 x1, .int .i64 x2, .int .i64 x3], .agg #[.int .i64 x0, .int .i64 x1, .int .i64 x2, .int .i64 x3]] w fun e w' => e = .returned (.bool true) ∧ Below w.heap.size w w' := by
  have b0 : Below w.heap.size w ((w.alloc (.cells #[.int .i64 x0, .int .i64 x1, .int .i64 x2, .int .i64 x3] 34)).alloc (.cells #[.int .i64 x0, .int .i64 x1, .int .i64 x2, .int .i64 x3] 34)) :=
    ((Below.refl _ w).alloc (Nat.le_refl _) _).alloc (by simp) _
  have B0 := Lib.hid b0
  clear b0
  go_enter Try.func16, Try.ntmps16
  go_wp2
  go_ret
  exact ⟨rfl, B0.out⟩

structure ReadM where
  cl : Int
  sq : Int
  key : Int
  least : Int
def readC (x : ReadM) : List Dat := [.int x.cl, .int x.sq, .int x.key, .int x.least]
theorem readC_len (x : ReadM) : (readC x).length = 4 := rfl

set_option maxHeartbeats 1600000 in
theorem eqRead_one (x0 x1 x2 x3 : Int) (w : World) :
    Calls Try.prog 23 #[.agg #[.int .i64 x0, .int .i64 x1, .int .i64 x2, .int .i64 x3], .agg #[.int .i64 x0, .int .i64 x1, .int .i64 x2, .int .i64 x3]] w fun e w' => e = .returned (.bool true) ∧ Below w.heap.size w w' := by
  have b0 : Below w.heap.size w ((w.alloc (.cells #[.int .i64 x0, .int .i64 x1, .int .i64 x2, .int .i64 x3] 41)).alloc (.cells #[.int .i64 x0, .int .i64 x1, .int .i64 x2, .int .i64 x3] 41)) :=
    ((Below.refl _ w).alloc (Nat.le_refl _) _).alloc (by simp) _
  have B0 := Lib.hid b0
  clear b0
  go_enter Try.func23, Try.ntmps23
  go_wp2
  go_ret
  exact ⟨rfl, B0.out⟩

structure ValueM where
  cl : Int
  sq : Int
  ix : Int
  has : Int
  val : Int
def valueC (x : ValueM) : List Dat := [.int x.cl, .int x.sq, .int x.ix, .int x.has, .int x.val]
theorem valueC_len (x : ValueM) : (valueC x).length = 5 := rfl

set_option maxHeartbeats 1600000 in
theorem eqValue_one (x0 x1 x2 x3 x4 : Int) (w : World) :
    Calls Try.prog 26 #[.agg #[.int .i64 x0, .int .i64 x1, .int .i64 x2, .int .i64 x3, .int .i64 x4], .agg #[.int .i64 x0, .int .i64 x1, .int .i64 x2, .int .i64 x3, .int .i64 x4]] w fun e w' => e = .returned (.bool true) ∧ Below w.heap.size w w' := by
  have b0 : Below w.heap.size w ((w.alloc (.cells #[.int .i64 x0, .int .i64 x1, .int .i64 x2, .int .i64 x3, .int .i64 x4] 46)).alloc (.cells #[.int .i64 x0, .int .i64 x1, .int .i64 x2, .int .i64 x3, .int .i64 x4] 46)) :=
    ((Below.refl _ w).alloc (Nat.le_refl _) _).alloc (by simp) _
  have B0 := Lib.hid b0
  clear b0
  go_enter Try.func26, Try.ntmps26
  go_wp2
  go_ret
  exact ⟨rfl, B0.out⟩

structure AskM where
  cl : Int
  sq : Int
  kd : Int
  oa : Int
  ob : Int
  oc : Int
  od : Int
def askC (x : AskM) : List Dat := [.int x.cl, .int x.sq, .int x.kd, .int x.oa, .int x.ob, .int x.oc, .int x.od]
theorem askC_len (x : AskM) : (askC x).length = 7 := rfl

set_option maxHeartbeats 1600000 in
theorem eqAsk_one (x0 x1 x2 x3 x4 x5 x6 : Int) (w : World) :
    Calls Try.prog 12 #[.agg #[.int .i64 x0, .int .i64 x1, .int .i64 x2, .int .i64 x3, .int .i64 x4, .int .i64 x5, .int .i64 x6], .agg #[.int .i64 x0, .int .i64 x1, .int .i64 x2, .int .i64 x3, .int .i64 x4, .int .i64 x5, .int .i64 x6]] w fun e w' => e = .returned (.bool true) ∧ Below w.heap.size w w' := by
  have b0 : Below w.heap.size w ((w.alloc (.cells #[.int .i64 x0, .int .i64 x1, .int .i64 x2, .int .i64 x3, .int .i64 x4, .int .i64 x5, .int .i64 x6] 26)).alloc (.cells #[.int .i64 x0, .int .i64 x1, .int .i64 x2, .int .i64 x3, .int .i64 x4, .int .i64 x5, .int .i64 x6] 26)) :=
    ((Below.refl _ w).alloc (Nat.le_refl _) _).alloc (by simp) _
  have B0 := Lib.hid b0
  clear b0
  go_enter Try.func12, Try.ntmps12
  go_wp2_with (first | (go_at_call 31; refine (eqOp_one x2 x3 x4 x5 x6 _).mono ?_; rintro e w1 ⟨rfl, b1⟩))
  have B1 := Lib.hid (B0.out.trans (b1.mono B0.out.size))
  go_ret
  exact ⟨rfl, B1.out⟩

end Go.Proofs.Ytgjlfambaiakbaa
