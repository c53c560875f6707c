/-
  The program's addressOk.
-/
import Derived.Test.YtfmbadhiflaldaaVI1
namespace Go.Proofs.Ytfmbadhiflaldaa
open Go.RowKit

theorem l2AtV_cases (l : List Ar) (p : Int) : l2AtV l p = -1 ∨ ∃ j : Nat, j < l.length ∧ l2AtV l p = j := by
  unfold l2AtV
  split
  · rename_i h
    exact Or.inr ⟨_, h, rfl⟩
  · exact Or.inl rfl
theorem addressOk_any {w : World} (n : Int) : Calls Try.prog 107 #[.int .i64 n] w fun e w' => e = .returned (.bool (inB n 0 63)) ∧ w = w' := by
  by_cases h1 : 0 ≤ n
  · by_cases h2 : n < 64
    · rw [inB_of (by omega)]
      go_enter Try.func107, Try.ntmps107
      go_wp2
      go_ret
      exact ⟨rfl, rfl⟩
    · rw [inB_not (by omega)]
      go_enter Try.func107, Try.ntmps107
      go_wp2
      go_ret
      exact ⟨rfl, rfl⟩
  · rw [inB_not (by omega)]
    go_enter Try.func107, Try.ntmps107
    go_wp2
    go_ret
    exact ⟨rfl, rfl⟩

end Go.Proofs.Ytfmbadhiflaldaa
