/-
  How slices of Int that came in are opened.
-/
import Derived.Test.YtfmbadhiflaldaaKRow0
import Derived.Test.YtfmbadhiflaldaaTeInt
import Derived.Deep.Grids
namespace Go.Proofs.Ytfmbadhiflaldaa
open Go.ChangeShapes Go.WideShapes Go.ChangeAt Go.RowKit Go.Joins Go.Deep

section
variable {H : Type} {enc : TypeId × Value → H}
set_option maxRecDepth 100000 in
theorem openIntS {W : World} {fuel : Nat} {v : Value} {x : DataW H × List MemPlace} (h : DataW.trod enc Try.prog W 0 (fun _ => true) true fuel 24 [v] = some x) :
    ∃ (A : Option Addr) (n c : Nat) (l : List Int), v = .slice A n c ∧ l.length = n ∧ n ≤ maxLen ∧ RowF elI W W.heap.size A n l := by
  rcases open_ints Try.underlying24 Try.underlying3 cellsInt h with ⟨hcs, _⟩ | ⟨a, len, cap, ss, hcs, _, hl, hm, hz, _, hcell, _⟩
  · simp only [List.cons.injEq, and_true] at hcs
    exact ⟨none, 0, 0, [], hcs, rfl, Nat.zero_le _, fun hn => absurd hn (Nat.lt_irrefl 0)⟩
  · simp only [List.cons.injEq, and_true] at hcs
    simp only [if_true] at hz
    refine ⟨some a, len, cap, ss.take len, hcs, by rw [List.length_take]; omega, Nat.le_trans hl hm, fun hn => ?_⟩
    have hat : ∃ b off, a = ⟨b, off, none⟩ ∧ ∀ j, j < ss.length → W.cell? ⟨b, off + j, none⟩ = some (.int .i64 (ss.getD j 0)) := by
      obtain ⟨b, off, spot⟩ := a
      have hspot : spot = none := by simpa [Addr.add] using World.cell?_spot (hcell 0 (by omega))
      subst hspot
      exact ⟨b, off, rfl, fun j hj => by rw [← Go.WideShapes.add_plain]; exact hcell j hj⟩
    obtain ⟨b, off, rfl, hc⟩ := hat
    have hlt : b < W.heap.size := World.block_lt_of_cell? W _ (hc 0 (by omega))
    refine ⟨b, off, rfl, hlt, hlt, fun k hk r hr => ?_⟩
    have hr0 : r = 0 := by have : r < 1 := hr; omega
    subst hr0
    have h2 := hc k (by omega)
    rw [show off + k * elI.K + 0 = off + k from by show off + k * 1 + 0 = off + k; omega, h2]
    show some (Value.int .i64 (ss.getD k 0)) = some (Value.int .i64 ((ss.take len).getD k 0))
    rw [getD_take _ _ _ _ hk]
end
end Go.Proofs.Ytfmbadhiflaldaa
