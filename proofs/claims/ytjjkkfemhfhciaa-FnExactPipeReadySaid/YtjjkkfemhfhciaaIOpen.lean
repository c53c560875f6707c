/-
  How a pipe that came in is opened.
-/
import Derived.Test.YtjjkkfemhfhciaaKRow0
import Derived.Deep.Grids
namespace Go.Proofs.Ytjjkkfemhfhciaa
open Go.ChangeShapes Go.WideShapes Go.ChangeAt Go.RowKit Go.Joins Go.Deep

theorem cellsLPipe : Try.prog.cellsOf 42 = 3 := by kernel_rfl
section
variable {H : Type} {enc : TypeId × Value → H}
set_option maxRecDepth 100000 in
theorem openPipe {W : World} {base : Nat} {v : Value} {d : DataW H} {p : List MemPlace} (hv : Value.okWide Try.prog W .any base 42 v)
    (h : DataW.Trod enc Try.prog W 0 (fun _ => true) true 42 v d p) : ∃ (t : ByteArray) (r k : Int), v = .agg #[.string t, .int .i64 r, .int .i64 k] ∧ t.size ≤ maxLen := by
  obtain ⟨v0, v1, v2, y0, y1, y2, fu, rfl, _, _, h0, h1, h2⟩ := open_agg3 Try.underlying42 (by kernel_rfl) cellsLPipe hv h
  obtain ⟨z0, e0, _, s0⟩ := DataW.trod_string Try.underlying9 h0
  injection e0 with e0
  subst e0
  obtain ⟨z1, e1, _⟩ := DataW.trod_int Try.underlying3 h1
  injection e1 with e1
  subst e1
  obtain ⟨z2, e2, _⟩ := DataW.trod_int Try.underlying3 h2
  injection e2 with e2
  subst e2
  exact ⟨z0, z1, z2, rfl, s0⟩
end
end Go.Proofs.Ytjjkkfemhfhciaa
