/-
  Memories as the laws' arguments: what comes with them, the laws' helpers on them.
-/
import Derived.Test.YtfmbadhiflaldaaRMem
import Derived.Test.YtfmbadhiflaldaaVAr
import Derived.Test.YtfmbadhiflaldaaMPure
namespace Go.Proofs.Ytfmbadhiflaldaa
open Go.RowKit

def PM (D : EMem) : Prop := wfMem D ∧ ∀ s ∈ D.2.2.1, TopE s.2.1
def smallMem (D : EMem) : Prop := totMem D ≤ 1048576
def tyMemP : Ty EMem := tyMem.sub PM (fun D => PM D ∧ smallMem D) (fun _ h => h.1)
section
variable {w : World} {hi hi2 : Nat} {D : EMem} {fp : List Nat} {x0 x1 x2 x3 x4 x5 y0 y1 y2 y3 y4 y5 : Value} {cs : List Value}
theorem cntMem_pos : 0 ≤ cntMem D := (cntMem_le D).1
theorem tyMemP_sh (h : tyMemP.R w hi cs D) : ∃ (A0 : Option Addr) (n0 c0 : Nat) (A1 : Option Addr) (n1 c1 : Nat) (A2 : Option Addr) (n2 c2 : Nat) (A3 : Option Addr) (n3 c3 : Nat) (A4 : Option Addr) (n4 c4 : Nat), cs = [.slice A0 n0 c0, .slice A1 n1 c1, .slice A2 n2 c2, .slice A3 n3 c3, .slice A4 n4 c4, .int .i64 D.2.2.2] := tyMem_sh h.1
theorem tyMemP_shM (h : tyMemP.M w fp cs D) : ∃ (A0 : Option Addr) (n0 c0 : Nat) (A1 : Option Addr) (n1 c1 : Nat) (A2 : Option Addr) (n2 c2 : Nat) (A3 : Option Addr) (n3 c3 : Nat) (A4 : Option Addr) (n4 c4 : Nat), cs = [.slice A0 n0 c0, .slice A1 n1 c1, .slice A2 n2 c2, .slice A3 n3 c3, .slice A4 n4 c4, .int .i64 D.2.2.2] := tyMem_shM h.1
theorem szMem_t (left : Int) (hl : 0 ≤ left) (hl2 : left ≤ 1048576) (h : tyMemP.R w hi [x0, x1, x2, x3, x4, x5] D) :
    Calls Try.prog 36 #[.agg #[x0, x1, x2, x3, x4, x5], .int .i64 left] w fun e w' => ∃ z : Int, e = .returned (.int .i64 z) ∧ (0 ≤ z → smallMem D ∧ z ≤ left) ∧ -1 ≤ z ∧ Below w.heap.size w w' :=
  (szY_Mem left hl hl2 h.2.1 h.1).mono fun _ _ ⟨z, he, hz, hz1, hb⟩ => ⟨z, he, fun h0 => by have := hz h0; unfold smallMem; omega, hz1, hb⟩
theorem eqMem_t (h : tyMemP.R w hi [x0, x1, x2, x3, x4, x5] D) (h2 : tyMemP.R w hi2 [y0, y1, y2, y3, y4, y5] D) :
    Calls Try.prog 38 #[.agg #[x0, x1, x2, x3, x4, x5], .agg #[y0, y1, y2, y3, y4, y5]] w fun e w' => e = .returned (.bool true) ∧ Below w.heap.size w w' := eqY_Mem h.1 h2.1
theorem toMem_t (h : tyMemP.R w hi [x0, x1, x2, x3, x4, x5] D) (hs : smallMem D) :
    Calls Try.prog 37 #[.agg #[x0, x1, x2, x3, x4, x5]] w fun e w' => ∃ y0 y1 y2 y3 y4 y5 fp, e = .returned (.agg #[y0, y1, y2, y3, y4, y5]) ∧ tyMemP.M w' fp [y0, y1, y2, y3, y4, y5] D ∧ (∀ b ∈ fp, w.heap.size ≤ b ∧ b < w'.heap.size) ∧ Below w.heap.size w w' :=
  (toY_Mem h.1 hs).mono fun _ _ ⟨y0, y1, y2, y3, y4, y5, fp, he, hm, hf, hb⟩ => ⟨y0, y1, y2, y3, y4, y5, fp, he, ⟨hm, h.2, hs⟩, hf, hb⟩
theorem markMem_t (k : Int) (h0 : 0 < k) (h1 : k ≤ 1) (hm : tyMemP.M w fp [x0, x1, x2, x3, x4, x5] D) (hf : ∀ b ∈ fp, b < w.heap.size) :
    Calls Try.prog 40 #[.agg #[x0, x1, x2, x3, x4, x5], .int .i64 k] w fun e w' => e = .returned (.int .i64 (k + cntMem D)) ∧ tyMem.M w' fp [x0, x1, x2, x3, x4, x5] (mksMem k D) ∧ Foot w w' fp :=
  markY_Mem k h0 (by have := hm.2.2; unfold smallMem at this; omega) hm.1 hf
theorem heldMem_t (k : Int) (h0 : 0 < k) (h1 : k ≤ 1) (h : tyMem.R w hi [x0, x1, x2, x3, x4, x5] (mksMem k D)) (hs : smallMem D) :
    Calls Try.prog 41 #[.agg #[x0, x1, x2, x3, x4, x5], .int .i64 k] w fun e w' => e = .returned (.int .i64 (k + cntMem D)) ∧ Below w.heap.size w w' :=
  heldY_Mem k h0 (by unfold smallMem at hs; omega) h
end
end Go.Proofs.Ytfmbadhiflaldaa
