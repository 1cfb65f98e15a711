/-
  The two copies of a row into new memory.
-/
import Derived.Test.YtejcpoidoekleaaCopyS
import Derived.Test.YtejcpoidoekleaaCopyI
