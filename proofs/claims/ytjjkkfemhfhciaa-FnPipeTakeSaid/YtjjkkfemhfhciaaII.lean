/-
  The program's pipes, collected: pipeOkI, pipePutI, pipeTakeI, pipeJoinI, pipeLeaveI, pipeReadyI.
-/
import Derived.Test.YtjjkkfemhfhciaaIIb
import Derived.Test.YtjjkkfemhfhciaaIIc
import Derived.Test.YtjjkkfemhfhciaaIId
namespace Go.Proofs.Ytjjkkfemhfhciaa
end Go.Proofs.Ytjjkkfemhfhciaa
