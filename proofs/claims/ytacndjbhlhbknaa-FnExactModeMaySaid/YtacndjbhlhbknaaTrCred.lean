/-
  How a Cred that came in is opened.
-/
import Derived.Test.YtacndjbhlhbknaaTsCred
import Derived.Test.YtacndjbhlhbknaaToInt
namespace Go.Proofs.Ytacndjbhlhbknaa
open Go.ChangeShapes Go.WideShapes Go.ChangeAt Go.RowKit Go.Joins Go.Deep

theorem cellsLCred : Try.prog.cellsOf 45 = 3 := by kernel_rfl
section
variable {H : Type} {enc : TypeId × Value → H}
set_option maxRecDepth 100000 in
theorem openCred {W : World} {base : Nat} {v : Value} {d : DataW H} {p : List MemPlace} (hv : Value.okWide Try.prog W .any base 45 v)
    (h : DataW.Trod enc Try.prog W 0 (fun _ => true) true 45 v d p) : ∃ (x0 x1 x2 : Value) (D : Int × Int × List Int), v = .agg #[x0, x1, x2] ∧ tyCred.R W W.heap.size [x0, x1, x2] D := by
  obtain ⟨v0, v1, v2, y0, y1, y2, fu, rfl, _, _, h0, h1, h2⟩ := open_agg3 Try.underlying45 (by kernel_rfl) cellsLCred hv h
  obtain ⟨z0, e0, _⟩ := DataW.trod_int Try.underlying3 h0
  injection e0 with e0
  subst e0
  obtain ⟨z1, e1, _⟩ := DataW.trod_int Try.underlying3 h1
  injection e1 with e1
  subst e1
  obtain ⟨A2, n2, c2, z2, rfl, l2, m2, r2⟩ := openIntS h2
  exact ⟨_, _, _, (z0, z1, z2), rfl, tyCred_Rmk (D := (z0, z1, z2)) ⟨l2, m2, r2⟩⟩
end
end Go.Proofs.Ytacndjbhlhbknaa
