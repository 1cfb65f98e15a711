/-
  Chapter 11: messages as mathematics (by program, wip/gen/genletm.py).
-/
import Derived.Test.YtepnghjmpbfmcaaLetF
import Derived.Test.YtepnghjmpbfmcaaLetJ
namespace Go.Proofs.Ytepnghjmpbfmcaa
set_option maxRecDepth 100000
open Go.RowKit

inductive LetM where
  | ask (a : AskM)
  | ack (a : AckM)
  | fetch (x : Int)
  | feed (f : FeedM)
  | trim (x : Int)
  | read (r : ReadM)
  | value (v : ValueM)
  | poll (x : Int)
  | jobs (j : JobsM)

end Go.Proofs.Ytepnghjmpbfmcaa
