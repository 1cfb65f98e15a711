/-
  Messages as plain data, and the laws' helpers for them (by program, wip/gen/genlet0.py).
-/
import Derived.Test.YthjjdelpdiipdaaEnt
import Derived.RegionTactic
import Derived.BigQuiet
namespace Go.Proofs.Ythjjdelpdiipdaa
set_option maxRecDepth 100000
open Go.RowKit

structure AckM where
  cl : Int
  sq : Int
  ix : Int
  last : Int
def ackC (x : AckM) : List Dat := [.int x.cl, .int x.sq, .int x.ix, .int x.last]
theorem ackC_len (x : AckM) : (ackC x).length = 4 := rfl

set_option maxHeartbeats 1600000 in
theorem toAck_any (x0 x1 x2 x3 : Int) (w : World) :
    Calls Try.prog 58 #[.agg #[.int .i64 x0, .int .i64 x1, .int .i64 x2, .int .i64 x3]] w fun e w' => e = .returned (.agg #[.int .i64 x0, .int .i64 x1, .int .i64 x2, .int .i64 x3]) ∧ Below w.heap.size w w' := by
  have C := Lib.hid ((((Below.refl w.heap.size w).alloc (Nat.le_refl _) (.cells #[.int .i64 x0, .int .i64 x1, .int .i64 x2, .int .i64 x3] 103)).alloc (by simp) (.cells #[.int .i64 x0, .int .i64 x1, .int .i64 x2, .int .i64 x3] 27)).alloc (by simp; omega) (.cells #[.int .i64 x0, .int .i64 x1, .int .i64 x2, .int .i64 x3] 27))
  go_enter Try.func58, Try.ntmps58
  go_wp2
  exact bodyPost_ret (v := .agg #[.int .i64 x0, .int .i64 x1, .int .i64 x2, .int .i64 x3]) (by simp [results, Try.results58, go_sem]) rfl ⟨rfl, C.out⟩

set_option maxHeartbeats 1600000 in
theorem eqAck_one (x0 x1 x2 x3 : Int) (w : World) :
    Calls Try.prog 8 #[.agg #[.int .i64 x0, .int .i64 x1, .int .i64 x2, .int .i64 x3], .agg #[.int .i64 x0, .int .i64 x1, .int .i64 x2, .int .i64 x3]] w fun e w' => e = .returned (.bool true) ∧ Below w.heap.size w w' := by
  have b0 : Below w.heap.size w ((w.alloc (.cells #[.int .i64 x0, .int .i64 x1, .int .i64 x2, .int .i64 x3] 27)).alloc (.cells #[.int .i64 x0, .int .i64 x1, .int .i64 x2, .int .i64 x3] 27)) :=
    ((Below.refl _ w).alloc (Nat.le_refl _) _).alloc (by simp) _
  have B0 := Lib.hid b0
  clear b0
  go_enter Try.func8, Try.ntmps8
  go_wp2
  go_ret
  exact ⟨rfl, B0.out⟩

structure ReadM where
  cl : Int
  sq : Int
  key : Int
  least : Int
def readC (x : ReadM) : List Dat := [.int x.cl, .int x.sq, .int x.key, .int x.least]
theorem readC_len (x : ReadM) : (readC x).length = 4 := rfl

structure ValueM where
  cl : Int
  sq : Int
  ix : Int
  has : Int
  val : Int
def valueC (x : ValueM) : List Dat := [.int x.cl, .int x.sq, .int x.ix, .int x.has, .int x.val]
theorem valueC_len (x : ValueM) : (valueC x).length = 5 := rfl

structure AskM where
  cl : Int
  sq : Int
  kd : Int
  oa : Int
  ob : Int
  oc : Int
  od : Int
def askC (x : AskM) : List Dat := [.int x.cl, .int x.sq, .int x.kd, .int x.oa, .int x.ob, .int x.oc, .int x.od]
theorem askC_len (x : AskM) : (askC x).length = 7 := rfl

end Go.Proofs.Ythjjdelpdiipdaa
