/-
  The laws' helpers on a slice of Int that stands in another one.
-/
import Derived.Test.YtfmbadhiflaldaaTeInt
import Derived.Test.YtfmbadhiflaldaaNKit
namespace Go.Proofs.Ytfmbadhiflaldaa
open Go.RowKit

def tySInt : Ty (List Int) := tyF elI
def totSInt (D : List Int) : Nat := D.length
def wfSInt (_ : List Int) : Prop := True
def cntSInt (D : List Int) : Int := D.length
def mksSInt (k : Int) (D : List Int) : List Int := mksG mkInt 1 k D.length
theorem cntSInt_le (D : List Int) : 0 ≤ cntSInt D ∧ cntSInt D ≤ 8 * (totSInt D : Int) := by unfold cntSInt totSInt; omega
theorem totSInt_mk (k : Int) (D : List Int) : totSInt (mksSInt k D) = totSInt D := mksG_len
theorem cntSInt_mk (k : Int) (D : List Int) : cntSInt (mksSInt k D) = cntSInt D := by simp only [cntSInt, mksSInt, mksG_len]
theorem tySInt_sh {w : World} {hi : Nat} {cs : List Value} {D : List Int} (h : tySInt.R w hi cs D) : ∃ (A : Option Addr) (n c : Nat), cs = [.slice A n c] := by
  obtain ⟨A, n, c, rfl, _⟩ := h
  exact ⟨A, n, c, rfl⟩
theorem tySInt_shM {w : World} {fp : List Nat} {cs : List Value} {D : List Int} (h : tySInt.M w fp cs D) : ∃ (A : Option Addr) (n c : Nat), cs = [.slice A n c] := by
  obtain ⟨A, n, c, rfl, _⟩ := h
  exact ⟨A, n, c, rfl⟩
section
variable {w : World} {hi hi2 : Nat} {D : List Int} {fp : List Nat} {x0 y0 : Value}
theorem szY_SInt (left : Int) (hl : 0 ≤ left) (hl2 : left ≤ 1048576) (_hw : wfSInt D) (h : tySInt.R w hi [x0] D) :
    Calls Try.prog 113 #[x0, .int .i64 left] w fun e w' => ∃ z : Int, e = .returned (.int .i64 z) ∧ (0 ≤ z → (totSInt D : Int) + z ≤ left) ∧ -1 ≤ z ∧ Below w.heap.size w w' := by
  obtain ⟨A, n, c, e, hL, hn, hr⟩ := h
  obtain rfl : x0 = .slice A n c := by simpa using e
  have q : n ≤ 9223372036854775807 := by unfold maxLen at hn; omega
  unfold totSInt
  rw [hL]
  clear e hr hn
  by_cases hle : (n : Int) ≤ left
  · go_enter Try.func113, Try.ntmps113
    go_wp2
    go_ret
    exact ⟨_, rfl, fun _ => by omega, by omega, Below.refl _ _⟩
  · go_enter Try.func113, Try.ntmps113
    go_wp2
    go_ret
    exact ⟨_, rfl, fun h => by omega, by omega, Below.refl _ _⟩
set_option maxHeartbeats 1000000 in
theorem eqY_SInt (h : tySInt.R w hi [x0] D) (h2 : tySInt.R w hi2 [y0] D) :
    Calls Try.prog 119 #[x0, y0] w fun e w' => e = .returned (.bool true) ∧ Below w.heap.size w w' := by
  obtain ⟨A, n, c, e, hL, hn, hr⟩ := h
  obtain ⟨B, p, d, e2, hL2, _, hr2⟩ := h2
  obtain rfl : x0 = .slice A n c := by simpa using e
  obtain rfl : y0 = .slice B p d := by simpa using e2
  obtain rfl : n = p := hL.symm.trans hL2
  exact eqInt_S hr hr2 (by unfold maxLen at hn; omega)
set_option maxHeartbeats 2000000 in
theorem toY_SInt (h : tySInt.R w hi [x0] D) (hs : totSInt D ≤ 1048576) :
    Calls Try.prog 116 #[x0] w fun e w' => ∃ y0 fp, e = .returned (y0) ∧ tySInt.M w' fp [y0] D ∧ (∀ b ∈ fp, w.heap.size ≤ b ∧ b < w'.heap.size) ∧ Below w.heap.size w w' := by
  obtain ⟨A, n, c, e, hL, hn, hr⟩ := h
  obtain rfl : x0 = .slice A n c := by simpa using e
  have hs2 : n ≤ 1048576 := by unfold totSInt at hs; omega
  refine (toInt_S hr hL hs2).mono ?_
  rintro e w1 ⟨g, rfl, hm, hg, hg2, hb⟩
  exact ⟨_, [g], rfl, ⟨_, _, _, rfl, hL, hs2, hm⟩, fun b h => by rw [List.mem_singleton] at h; subst h; exact ⟨hg, hg2⟩, hb⟩
set_option maxHeartbeats 2000000 in
theorem markY_SInt (k : Int) (h0 : 0 < k) (h1 : k + 8 * totSInt D ≤ 8388609) (hm : tySInt.M w fp [x0] D) (_hf : ∀ b ∈ fp, b < w.heap.size) :
    Calls Try.prog 122 #[x0, .int .i64 k] w fun e w' => e = .returned (.int .i64 (k + cntSInt D)) ∧ tySInt.M w' fp [x0] (mksSInt k D) ∧ Foot w w' fp := by
  obtain ⟨A, n, c, e, hL, hn, hr⟩ := hm
  obtain rfl : x0 = .slice A n c := by simpa using e
  unfold totSInt at h1
  unfold cntSInt mksSInt
  rw [hL] at h1 ⊢
  refine (markInt_S (c := c) k h0 (by omega) hL hn hr).mono ?_
  rintro e w1 ⟨rfl, hm, ht⟩
  exact ⟨rfl, ⟨_, _, _, rfl, mksG_len, hn, hm⟩, ht⟩
set_option maxHeartbeats 2000000 in
theorem heldY_SInt (k : Int) (h0 : 0 < k) (h1 : k + 8 * totSInt D ≤ 8388609) (h : tySInt.R w hi [x0] (mksSInt k D)) :
    Calls Try.prog 126 #[x0, .int .i64 k] w fun e w' => e = .returned (.int .i64 (k + cntSInt D)) ∧ Below w.heap.size w w' := by
  obtain ⟨A, n, c, e, hL, hn, hr⟩ := h
  obtain rfl : x0 = .slice A n c := by simpa using e
  rw [show (mksSInt k D).length = D.length from mksG_len] at hL
  unfold totSInt at h1
  unfold cntSInt
  unfold mksSInt at hr
  rw [hL] at h1 hr ⊢
  refine (heldInt_S (c := c) k h0 (by omega) (by omega) hr).mono ?_
  rintro e w1 ⟨rfl, hb⟩
  exact ⟨rfl, hb⟩
end
end Go.Proofs.Ytfmbadhiflaldaa
