/-
  Three closed facts on the translated program, which every row asks: reckoned once by the kernel.
-/
import Derived.Test.YtphanhlaojpbiaaRows
import Derived.JoinedOf
namespace Go.Proofs.Ytphanhlaojpbiaa.facts

theorem heard : Try.prog.stopsHeard = true := by kernel_rfl
theorem enter : Try.prog.mayEnter = true := by kernel_rfl
theorem lifts : Try.prog.liftsFinal = false := by kernel_rfl
end Go.Proofs.Ytphanhlaojpbiaa.facts
