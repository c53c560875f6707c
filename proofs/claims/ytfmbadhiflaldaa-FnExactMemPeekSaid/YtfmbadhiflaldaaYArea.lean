/-
  The laws' helpers on a slice of Area that stands in another one.
-/
import Derived.Test.YtfmbadhiflaldaaTeArea
import Derived.Test.YtfmbadhiflaldaaNKit
namespace Go.Proofs.Ytfmbadhiflaldaa
open Go.RowKit

def tySArea : Ty (List EArea) := tyF elArea
def totSArea (D : List EArea) : Nat := D.length
def wfSArea (_ : List EArea) : Prop := True
def cntSArea (D : List EArea) : Int := 4 * (D.length : Int)
def mksSArea (k : Int) (D : List EArea) : List EArea := mksG mkArea 4 k D.length
theorem cntSArea_le (D : List EArea) : 0 ≤ cntSArea D ∧ cntSArea D ≤ 8 * (totSArea D : Int) := by unfold cntSArea totSArea; omega
theorem totSArea_mk (k : Int) (D : List EArea) : totSArea (mksSArea k D) = totSArea D := mksG_len
theorem cntSArea_mk (k : Int) (D : List EArea) : cntSArea (mksSArea k D) = cntSArea D := by simp only [cntSArea, mksSArea, mksG_len]
theorem tySArea_sh {w : World} {hi : Nat} {cs : List Value} {D : List EArea} (h : tySArea.R w hi cs D) : ∃ (A : Option Addr) (n c : Nat), cs = [.slice A n c] := by
  obtain ⟨A, n, c, rfl, _⟩ := h
  exact ⟨A, n, c, rfl⟩
theorem tySArea_shM {w : World} {fp : List Nat} {cs : List Value} {D : List EArea} (h : tySArea.M w fp cs D) : ∃ (A : Option Addr) (n c : Nat), cs = [.slice A n c] := by
  obtain ⟨A, n, c, rfl, _⟩ := h
  exact ⟨A, n, c, rfl⟩
section
variable {w : World} {hi hi2 : Nat} {D : List EArea} {fp : List Nat} {x0 y0 : Value}
theorem szY_SArea (left : Int) (hl : 0 ≤ left) (hl2 : left ≤ 1048576) (_hw : wfSArea D) (h : tySArea.R w hi [x0] D) :
    Calls Try.prog 146 #[x0, .int .i64 left] w fun e w' => ∃ z : Int, e = .returned (.int .i64 z) ∧ (0 ≤ z → (totSArea D : Int) + z ≤ left) ∧ -1 ≤ z ∧ Below w.heap.size w w' := by
  obtain ⟨A, n, c, e, hL, hn, hr⟩ := h
  obtain rfl : x0 = .slice A n c := by simpa using e
  have q : n ≤ 9223372036854775807 := by unfold maxLen at hn; omega
  unfold totSArea
  rw [hL]
  clear e hr hn
  by_cases hle : (n : Int) ≤ left
  · go_enter Try.func146, Try.ntmps146
    go_wp2
    go_ret
    exact ⟨_, rfl, fun _ => by omega, by omega, Below.refl _ _⟩
  · go_enter Try.func146, Try.ntmps146
    go_wp2
    go_ret
    exact ⟨_, rfl, fun h => by omega, by omega, Below.refl _ _⟩
set_option maxHeartbeats 1000000 in
theorem eqY_SArea (h : tySArea.R w hi [x0] D) (h2 : tySArea.R w hi2 [y0] D) :
    Calls Try.prog 150 #[x0, y0] w fun e w' => e = .returned (.bool true) ∧ Below w.heap.size w w' := by
  obtain ⟨A, n, c, e, hL, hn, hr⟩ := h
  obtain ⟨B, p, d, e2, hL2, _, hr2⟩ := h2
  obtain rfl : x0 = .slice A n c := by simpa using e
  obtain rfl : y0 = .slice B p d := by simpa using e2
  obtain rfl : n = p := hL.symm.trans hL2
  exact eqArea_S hr hr2 (by unfold maxLen at hn; omega)
set_option maxHeartbeats 2000000 in
theorem toY_SArea (h : tySArea.R w hi [x0] D) (hs : totSArea D ≤ 1048576) :
    Calls Try.prog 148 #[x0] w fun e w' => ∃ y0 fp, e = .returned (y0) ∧ tySArea.M w' fp [y0] D ∧ (∀ b ∈ fp, w.heap.size ≤ b ∧ b < w'.heap.size) ∧ Below w.heap.size w w' := by
  obtain ⟨A, n, c, e, hL, hn, hr⟩ := h
  obtain rfl : x0 = .slice A n c := by simpa using e
  have hs2 : n ≤ 1048576 := by unfold totSArea at hs; omega
  refine (toArea_S hr hL hs2).mono ?_
  rintro e w1 ⟨g, rfl, hm, hg, hg2, hb⟩
  exact ⟨_, [g], rfl, ⟨_, _, _, rfl, hL, hs2, hm⟩, fun b h => by rw [List.mem_singleton] at h; subst h; exact ⟨hg, hg2⟩, hb⟩
set_option maxHeartbeats 2000000 in
theorem markY_SArea (k : Int) (h0 : 0 < k) (h1 : k + 8 * totSArea D ≤ 8388609) (hm : tySArea.M w fp [x0] D) (_hf : ∀ b ∈ fp, b < w.heap.size) :
    Calls Try.prog 123 #[x0, .int .i64 k] w fun e w' => e = .returned (.int .i64 (k + cntSArea D)) ∧ tySArea.M w' fp [x0] (mksSArea k D) ∧ Foot w w' fp := by
  obtain ⟨A, n, c, e, hL, hn, hr⟩ := hm
  obtain rfl : x0 = .slice A n c := by simpa using e
  unfold totSArea at h1
  unfold cntSArea mksSArea
  rw [hL] at h1 ⊢
  refine (markArea_S (c := c) k h0 (by omega) hL hn hr).mono ?_
  rintro e w1 ⟨rfl, hm, ht⟩
  exact ⟨rfl, ⟨_, _, _, rfl, mksG_len, hn, hm⟩, ht⟩
set_option maxHeartbeats 2000000 in
theorem heldY_SArea (k : Int) (h0 : 0 < k) (h1 : k + 8 * totSArea D ≤ 8388609) (h : tySArea.R w hi [x0] (mksSArea k D)) :
    Calls Try.prog 127 #[x0, .int .i64 k] w fun e w' => e = .returned (.int .i64 (k + cntSArea D)) ∧ Below w.heap.size w w' := by
  obtain ⟨A, n, c, e, hL, hn, hr⟩ := h
  obtain rfl : x0 = .slice A n c := by simpa using e
  rw [show (mksSArea k D).length = D.length from mksG_len] at hL
  unfold totSArea at h1
  unfold cntSArea
  unfold mksSArea at hr
  rw [hL] at h1 hr ⊢
  refine (heldArea_S (c := c) k h0 (by omega) (by omega) hr).mono ?_
  rintro e w1 ⟨rfl, hb⟩
  exact ⟨rfl, hb⟩
end
end Go.Proofs.Ytfmbadhiflaldaa
