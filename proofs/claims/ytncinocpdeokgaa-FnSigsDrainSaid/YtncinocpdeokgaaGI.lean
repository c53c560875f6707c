/-
  The program's contracts of chapter 10, collected.
-/
import Derived.Test.YtncinocpdeokgaaGIj
import Derived.Test.YtncinocpdeokgaaGIk
import Derived.Test.YtncinocpdeokgaaGIl
import Derived.Test.YtncinocpdeokgaaGIm
import Derived.Test.YtncinocpdeokgaaGIn
namespace Go.Proofs.Ytncinocpdeokgaa
theorem sigsAllI : GOk 26 ∧ GNew 22 ∧ GSet 30 ∧ GSnd 37 ∧ GNxt 23 ∧ GFrk 42 ∧ GRun 46 ∧ GBlk 33 :=
  ⟨sigsOkI, sigsNewI, sigsSetI, sigsSndI, sigsNxtI, sigsFrkI, sigsRunI, sigsBlkI⟩
end Go.Proofs.Ytncinocpdeokgaa
