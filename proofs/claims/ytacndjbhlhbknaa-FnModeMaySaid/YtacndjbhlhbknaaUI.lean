/-
  The landed program's contracts of chapter 5.
-/
import Derived.Test.YtacndjbhlhbknaaUIc
import Derived.Test.YtacndjbhlhbknaaUIe
import Derived.Test.YtacndjbhlhbknaaUIg
