/-
  The walks of the program beside a law of chapter 2.
-/
import Derived.Test.YtbpefenbpfaeaaaLawShuf
import Derived.Test.YtbpefenbpfaeaaaDicL
