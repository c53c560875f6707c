/-
  How a list of truth values that came in is opened.
-/
import Derived.Test.YtncinocpdeokgaaTrSigs
namespace Go.Proofs.Ytncinocpdeokgaa
open Go.ChangeShapes Go.WideShapes Go.ChangeAt Go.RowKit Go.Joins Go.Deep

section
variable {H : Type} {enc : TypeId × Value → H}
set_option maxRecDepth 100000 in
theorem openBoolS0 {W : World} {base : Nat} {v : Value} {d : DataW H} {p : List MemPlace} (hv : Value.okWide Try.prog W .any base 23 v)
    (h : DataW.Trod enc Try.prog W 0 (fun _ => true) true 23 v d p) : ∃ (A : Option Addr) (n c : Nat) (l : List Bool), v = .slice A n c ∧ l.length = n ∧ n ≤ maxLen ∧ RowF elB W W.heap.size A n l := by
  obtain ⟨a0, len, cap, rfl⟩ := okWide_slice Try.underlying23 hv
  obtain ⟨fuel, hf⟩ := h
  exact openBoolS (v := .slice a0 len cap) hf
end
end Go.Proofs.Ytncinocpdeokgaa
