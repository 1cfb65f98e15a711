/-
  The walks of the small functions of chapter 2, beside their laws.
-/
import Derived.Test.YtbpefenbpfaeaaaLawDic
import Derived.Test.YtbpefenbpfaeaaaDicJ
