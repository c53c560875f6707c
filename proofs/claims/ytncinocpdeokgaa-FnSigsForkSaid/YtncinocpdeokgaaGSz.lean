/-
  All of the model's functions of chapter 10.
-/
import Derived.Test.YtncinocpdeokgaaGS4
import Derived.Test.YtncinocpdeokgaaGS6
import Derived.Test.YtncinocpdeokgaaGS7
import Derived.Test.YtncinocpdeokgaaGS9
import Derived.Test.YtncinocpdeokgaaGSB
