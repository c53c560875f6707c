/-
  How a Sigs that came in is opened.
-/
import Derived.Test.YtncinocpdeokgaaTsSigs
import Derived.Test.YtncinocpdeokgaaToBool
import Derived.Test.YtncinocpdeokgaaToInt
namespace Go.Proofs.Ytncinocpdeokgaa
open Go.ChangeShapes Go.WideShapes Go.ChangeAt Go.RowKit Go.Joins Go.Deep

theorem cellsLSigs : Try.prog.cellsOf 49 = 3 := by kernel_rfl
section
variable {H : Type} {enc : TypeId × Value → H}
set_option maxRecDepth 100000 in
theorem openSigs {W : World} {base : Nat} {v : Value} {d : DataW H} {p : List MemPlace} (hv : Value.okWide Try.prog W .any base 49 v)
    (h : DataW.Trod enc Try.prog W 0 (fun _ => true) true 49 v d p) : ∃ (x0 x1 x2 : Value) (D : List Bool × List Bool × List Int), v = .agg #[x0, x1, x2] ∧ tySigs.R W W.heap.size [x0, x1, x2] D := by
  obtain ⟨v0, v1, v2, y0, y1, y2, fu, rfl, _, _, h0, h1, h2⟩ := open_agg3 Try.underlying49 (by kernel_rfl) cellsLSigs hv h
  obtain ⟨A0, n0, c0, z0, rfl, l0, m0, r0⟩ := openBoolS h0
  obtain ⟨A1, n1, c1, z1, rfl, l1, m1, r1⟩ := openBoolS h1
  obtain ⟨A2, n2, c2, z2, rfl, l2, m2, r2⟩ := openIntS h2
  exact ⟨_, _, _, (z0, z1, z2), rfl, tySigs_Rmk (D := (z0, z1, z2)) ⟨l0, m0, r0⟩ ⟨l1, m1, r1⟩ ⟨l2, m2, r2⟩⟩
end
end Go.Proofs.Ytncinocpdeokgaa
