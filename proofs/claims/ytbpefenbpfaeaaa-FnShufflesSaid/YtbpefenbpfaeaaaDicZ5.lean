/-
  The walks of the program beside a law of chapter 2.
-/
import Derived.Test.YtbpefenbpfaeaaaLawShufs
import Derived.Test.YtbpefenbpfaeaaaDicL
