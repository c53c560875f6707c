/-
  How slices of Bool that came in are opened.
-/
import Derived.Test.YtncinocpdeokgaaKRow0
import Derived.Test.YtncinocpdeokgaaTeBool
import Derived.Deep.Grids
namespace Go.Proofs.Ytncinocpdeokgaa
open Go.ChangeShapes Go.WideShapes Go.ChangeAt Go.RowKit Go.Joins Go.Deep

theorem cellsBool' : Try.prog.cellsOf 4 = 1 := by kernel_rfl
section
variable {H : Type} {enc : TypeId × Value → H}
set_option maxRecDepth 100000 in
theorem openBoolS {W : World} {fuel : Nat} {v : Value} {x : DataW H × List MemPlace} (h : DataW.trod enc Try.prog W 0 (fun _ => true) true fuel 23 [v] = some x) :
    ∃ (A : Option Addr) (n c : Nat) (l : List Bool), v = .slice A n c ∧ l.length = n ∧ n ≤ maxLen ∧ RowF elB W W.heap.size A n l := by
  rcases open_bools Try.underlying23 Try.underlying4 cellsBool' h with ⟨hcs, _⟩ | ⟨a, len, cap, B, hcs, _, hl, hm, _, hcell⟩
  · simp only [List.cons.injEq, and_true] at hcs
    exact ⟨none, 0, 0, [], hcs, rfl, Nat.zero_le _, fun hn => absurd hn (Nat.lt_irrefl 0)⟩
  · simp only [List.cons.injEq, and_true] at hcs
    refine ⟨some a, len, cap, (List.range len).map B, hcs, by simp, Nat.le_trans hl hm, fun hn => ?_⟩
    have hat : ∃ b off, a = ⟨b, off, none⟩ ∧ ∀ j, j < cap → W.cell? ⟨b, off + j, none⟩ = some (Value.bool (B j)) := by
      obtain ⟨b, off, spot⟩ := a
      have hspot : spot = none := by simpa [Addr.add] using World.cell?_spot (hcell 0 (by omega))
      subst hspot
      exact ⟨b, off, rfl, fun j hj => by rw [← Go.WideShapes.add_plain]; exact hcell j hj⟩
    obtain ⟨b, off, rfl, hc⟩ := hat
    have hlt : b < W.heap.size := World.block_lt_of_cell? W _ (hc 0 (by omega))
    refine ⟨b, off, rfl, hlt, hlt, fun k hk r hr => ?_⟩
    have hr0 : r = 0 := by have : r < 1 := hr; omega
    subst hr0
    have h2 := hc k (by omega)
    rw [show off + k * elB.K + 0 = off + k from by show off + k * 1 + 0 = off + k; omega, h2]
    show some (Value.bool (B k)) = some (Value.bool (((List.range len).map B).getD k false))
    simp [List.getD_eq_getElem?_getD, List.getElem?_range hk]
end
end Go.Proofs.Ytncinocpdeokgaa
