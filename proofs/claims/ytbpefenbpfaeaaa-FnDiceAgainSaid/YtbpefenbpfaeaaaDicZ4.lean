/-
  The walks of the program beside a law of chapter 2.
-/
import Derived.Test.YtbpefenbpfaeaaaLawAgain
import Derived.Test.YtbpefenbpfaeaaaDicK
