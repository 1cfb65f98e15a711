/-
  The walks of the program beside a law of chapter 2.
-/
import Derived.Test.YtbpefenbpfaeaaaLawSpread
import Derived.Test.YtbpefenbpfaeaaaDicK
