/-
  The model's LockStep and LockRun, as they read.
-/
import Derived.Test.YtpmigekejipohaaLS6
import Derived.Test.YtpmigekejipohaaLS7
namespace Go.Proofs.Ytpmigekejipohaa
open Go.RowKit

theorem KM.r {w : World} {D : Lk} {y0 y1 y2 : Value} {fp : List Nat} {w' : World} (h : KM w D y0 y1 y2 fp w') : tyLock.R w' w'.heap.size [y0, y1, y2] D ∧ Below w.heap.size w w' :=
  ⟨tyLock.mr h.1 fun b hb => (h.2.1 b hb).2, h.2.2.2⟩
theorem lockStep_s {w : World} {hi : Nat} {x0 x1 x2 : Value} {D : Lk} (x : Int) (h : tyLock.R w hi [x0, x1, x2] D) (hs : smallLock D) :
    Calls Try.prog 31 #[.agg #[x0, x1, x2], .int .i64 x] w fun e w' => ∃ y0 y1 y2, e = .returned (.tuple #[.agg #[y0, y1, y2], .bool (stpB D x)]) ∧ tyLock.R w' w'.heap.size [y0, y1, y2] (stpL D x) ∧ Below w.heap.size w w' :=
  (lockStep_any x h hs).mono fun _ _ ⟨y0, y1, y2, _, he, hk⟩ => ⟨y0, y1, y2, he, hk.r.1, hk.r.2⟩
end Go.Proofs.Ytpmigekejipohaa
