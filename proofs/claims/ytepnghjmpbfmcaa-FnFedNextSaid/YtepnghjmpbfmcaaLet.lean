/-
  Messages as plain data, and the laws' helpers for them (by program, wip/gen/genlet0.py).
-/
import Derived.Test.YtepnghjmpbfmcaaEnt
import Derived.RegionTactic
import Derived.BigQuiet
namespace Go.Proofs.Ytepnghjmpbfmcaa
set_option maxRecDepth 100000
open Go.RowKit

structure AckM where
  cl : Int
  sq : Int
  ix : Int
  last : Int
def ackC (x : AckM) : List Dat := [.int x.cl, .int x.sq, .int x.ix, .int x.last]
theorem ackC_len (x : AckM) : (ackC x).length = 4 := rfl

structure ReadM where
  cl : Int
  sq : Int
  key : Int
  least : Int
def readC (x : ReadM) : List Dat := [.int x.cl, .int x.sq, .int x.key, .int x.least]
theorem readC_len (x : ReadM) : (readC x).length = 4 := rfl

structure ValueM where
  cl : Int
  sq : Int
  ix : Int
  has : Int
  val : Int
def valueC (x : ValueM) : List Dat := [.int x.cl, .int x.sq, .int x.ix, .int x.has, .int x.val]
theorem valueC_len (x : ValueM) : (valueC x).length = 5 := rfl

structure AskM where
  cl : Int
  sq : Int
  kd : Int
  oa : Int
  ob : Int
  oc : Int
  od : Int
def askC (x : AskM) : List Dat := [.int x.cl, .int x.sq, .int x.kd, .int x.oa, .int x.ob, .int x.oc, .int x.od]
theorem askC_len (x : AskM) : (askC x).length = 7 := rfl

end Go.Proofs.Ytepnghjmpbfmcaa
