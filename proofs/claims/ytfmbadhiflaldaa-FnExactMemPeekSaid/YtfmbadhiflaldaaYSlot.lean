/-
  The laws' helpers on a slice of Slot that stands in another one.
-/
import Derived.Test.YtfmbadhiflaldaaTeSlot
import Derived.Test.YtfmbadhiflaldaaNKit
namespace Go.Proofs.Ytfmbadhiflaldaa
open Go.RowKit

def tySSlot : Ty (List ESlot) := tyF elSlot
def totSSlot (D : List ESlot) : Nat := D.length
def wfSSlot (_ : List ESlot) : Prop := True
def cntSSlot (D : List ESlot) : Int := 4 * (D.length : Int)
def mksSSlot (k : Int) (D : List ESlot) : List ESlot := mksG mkSlot 4 k D.length
theorem cntSSlot_le (D : List ESlot) : 0 ≤ cntSSlot D ∧ cntSSlot D ≤ 8 * (totSSlot D : Int) := by unfold cntSSlot totSSlot; omega
theorem totSSlot_mk (k : Int) (D : List ESlot) : totSSlot (mksSSlot k D) = totSSlot D := mksG_len
theorem cntSSlot_mk (k : Int) (D : List ESlot) : cntSSlot (mksSSlot k D) = cntSSlot D := by simp only [cntSSlot, mksSSlot, mksG_len]
theorem tySSlot_sh {w : World} {hi : Nat} {cs : List Value} {D : List ESlot} (h : tySSlot.R w hi cs D) : ∃ (A : Option Addr) (n c : Nat), cs = [.slice A n c] := by
  obtain ⟨A, n, c, rfl, _⟩ := h
  exact ⟨A, n, c, rfl⟩
theorem tySSlot_shM {w : World} {fp : List Nat} {cs : List Value} {D : List ESlot} (h : tySSlot.M w fp cs D) : ∃ (A : Option Addr) (n c : Nat), cs = [.slice A n c] := by
  obtain ⟨A, n, c, rfl, _⟩ := h
  exact ⟨A, n, c, rfl⟩
section
variable {w : World} {hi hi2 : Nat} {D : List ESlot} {fp : List Nat} {x0 y0 : Value}
theorem szY_SSlot (left : Int) (hl : 0 ≤ left) (hl2 : left ≤ 1048576) (_hw : wfSSlot D) (h : tySSlot.R w hi [x0] D) :
    Calls Try.prog 147 #[x0, .int .i64 left] w fun e w' => ∃ z : Int, e = .returned (.int .i64 z) ∧ (0 ≤ z → (totSSlot D : Int) + z ≤ left) ∧ -1 ≤ z ∧ Below w.heap.size w w' := by
  obtain ⟨A, n, c, e, hL, hn, hr⟩ := h
  obtain rfl : x0 = .slice A n c := by simpa using e
  have q : n ≤ 9223372036854775807 := by unfold maxLen at hn; omega
  unfold totSSlot
  rw [hL]
  clear e hr hn
  by_cases hle : (n : Int) ≤ left
  · go_enter Try.func147, Try.ntmps147
    go_wp2
    go_ret
    exact ⟨_, rfl, fun _ => by omega, by omega, Below.refl _ _⟩
  · go_enter Try.func147, Try.ntmps147
    go_wp2
    go_ret
    exact ⟨_, rfl, fun h => by omega, by omega, Below.refl _ _⟩
set_option maxHeartbeats 1000000 in
theorem eqY_SSlot (h : tySSlot.R w hi [x0] D) (h2 : tySSlot.R w hi2 [y0] D) :
    Calls Try.prog 151 #[x0, y0] w fun e w' => e = .returned (.bool true) ∧ Below w.heap.size w w' := by
  obtain ⟨A, n, c, e, hL, hn, hr⟩ := h
  obtain ⟨B, p, d, e2, hL2, _, hr2⟩ := h2
  obtain rfl : x0 = .slice A n c := by simpa using e
  obtain rfl : y0 = .slice B p d := by simpa using e2
  obtain rfl : n = p := hL.symm.trans hL2
  exact eqSlot_S hr hr2 (by unfold maxLen at hn; omega)
set_option maxHeartbeats 2000000 in
theorem toY_SSlot (h : tySSlot.R w hi [x0] D) (hs : totSSlot D ≤ 1048576) :
    Calls Try.prog 149 #[x0] w fun e w' => ∃ y0 fp, e = .returned (y0) ∧ tySSlot.M w' fp [y0] D ∧ (∀ b ∈ fp, w.heap.size ≤ b ∧ b < w'.heap.size) ∧ Below w.heap.size w w' := by
  obtain ⟨A, n, c, e, hL, hn, hr⟩ := h
  obtain rfl : x0 = .slice A n c := by simpa using e
  have hs2 : n ≤ 1048576 := by unfold totSSlot at hs; omega
  refine (toSlot_S hr hL hs2).mono ?_
  rintro e w1 ⟨g, rfl, hm, hg, hg2, hb⟩
  exact ⟨_, [g], rfl, ⟨_, _, _, rfl, hL, hs2, hm⟩, fun b h => by rw [List.mem_singleton] at h; subst h; exact ⟨hg, hg2⟩, hb⟩
set_option maxHeartbeats 2000000 in
theorem markY_SSlot (k : Int) (h0 : 0 < k) (h1 : k + 8 * totSSlot D ≤ 8388609) (hm : tySSlot.M w fp [x0] D) (_hf : ∀ b ∈ fp, b < w.heap.size) :
    Calls Try.prog 124 #[x0, .int .i64 k] w fun e w' => e = .returned (.int .i64 (k + cntSSlot D)) ∧ tySSlot.M w' fp [x0] (mksSSlot k D) ∧ Foot w w' fp := by
  obtain ⟨A, n, c, e, hL, hn, hr⟩ := hm
  obtain rfl : x0 = .slice A n c := by simpa using e
  unfold totSSlot at h1
  unfold cntSSlot mksSSlot
  rw [hL] at h1 ⊢
  refine (markSlot_S (c := c) k h0 (by omega) hL hn hr).mono ?_
  rintro e w1 ⟨rfl, hm, ht⟩
  exact ⟨rfl, ⟨_, _, _, rfl, mksG_len, hn, hm⟩, ht⟩
set_option maxHeartbeats 2000000 in
theorem heldY_SSlot (k : Int) (h0 : 0 < k) (h1 : k + 8 * totSSlot D ≤ 8388609) (h : tySSlot.R w hi [x0] (mksSSlot k D)) :
    Calls Try.prog 128 #[x0, .int .i64 k] w fun e w' => e = .returned (.int .i64 (k + cntSSlot D)) ∧ Below w.heap.size w w' := by
  obtain ⟨A, n, c, e, hL, hn, hr⟩ := h
  obtain rfl : x0 = .slice A n c := by simpa using e
  rw [show (mksSSlot k D).length = D.length from mksG_len] at hL
  unfold totSSlot at h1
  unfold cntSSlot
  unfold mksSSlot at hr
  rw [hL] at h1 hr ⊢
  refine (heldSlot_S (c := c) k h0 (by omega) (by omega) hr).mono ?_
  rintro e w1 ⟨rfl, hb⟩
  exact ⟨rfl, hb⟩
end
end Go.Proofs.Ytfmbadhiflaldaa
