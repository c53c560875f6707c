/-
  Three closed facts on the translated program, which every row asks.
-/
import Derived.Test.YtfmbadhiflaldaaFactz
namespace Go.Proofs.Ytfmbadhiflaldaa.facts

theorem heard : Try.prog.stopsHeard = true := by kernel_rfl
set_option maxRecDepth 1000000 in
theorem head0 : ∃ l, Try.prog.initOrder = String.ofList l ∧ factz.headOk l = true := ⟨_, rfl, by kernel_rfl⟩
theorem head : factz.headOk Try.prog.initOrder.toList = true := by
  obtain ⟨l, h1, h2⟩ := head0
  rw [h1, String.toList_ofList]
  exact h2
theorem later : Try.prog.laysLater = false := by kernel_rfl
theorem refl_ : Try.prog.bearsReflect = false := by kernel_rfl
theorem door : Try.prog.doorFits [] = true := by kernel_rfl
theorem enter : Try.prog.mayEnter = true := factz.enter_of head later refl_ door
theorem lifts : Try.prog.liftsFinal = false := factz.lifts_of head
theorem make : Try.prog.make = some .cut := factz.make_of head
end Go.Proofs.Ytfmbadhiflaldaa.facts
