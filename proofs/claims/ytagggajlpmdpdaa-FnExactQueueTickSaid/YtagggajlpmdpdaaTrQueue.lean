/-
  How a Queue that came in is opened.
-/
import Derived.Test.YtagggajlpmdpdaaTsQueue
import Derived.Test.YtagggajlpmdpdaaToTask
namespace Go.Proofs.Ytagggajlpmdpdaa
open Go.ChangeShapes Go.WideShapes Go.ChangeAt Go.RowKit Go.Joins Go.Deep

theorem cellsLQueue : Try.prog.cellsOf 49 = 2 := by kernel_rfl
section
variable {H : Type} {enc : TypeId × Value → H}
set_option maxRecDepth 100000 in
theorem openQueue {W : World} {base : Nat} {v : Value} {d : DataW H} {p : List MemPlace} (hv : Value.okWide Try.prog W .any base 49 v)
    (h : DataW.Trod enc Try.prog W 0 (fun _ => true) true 49 v d p) : ∃ (x0 x1 : Value) (D : List ETask × Int), v = .agg #[x0, x1] ∧ tyQueue.R W W.heap.size [x0, x1] D := by
  obtain ⟨v0, v1, y0, y1, fu, rfl, _, _, h0, h1⟩ := open_agg2 Try.underlying49 (by kernel_rfl) cellsLQueue hv h
  obtain ⟨A0, n0, c0, z0, rfl, l0, m0, r0⟩ := openTaskS h0
  obtain ⟨z1, e1, _⟩ := DataW.trod_int Try.underlying3 h1
  injection e1 with e1
  subst e1
  exact ⟨_, _, (z0, z1), rfl, tyQueue_Rmk (D := (z0, z1)) ⟨l0, m0, r0⟩⟩
end
end Go.Proofs.Ytagggajlpmdpdaa
