/-
  The laws' helpers on a slice of String that stands in another one.
-/
import Derived.Test.YtfmbadhiflaldaaTeString
import Derived.Test.YtfmbadhiflaldaaNKit
namespace Go.Proofs.Ytfmbadhiflaldaa
open Go.RowKit

def tySString : Ty (List ByteArray) := tyF elS
def totSString (D : List ByteArray) : Nat := D.length
def wfSString (D : List ByteArray) : Prop := ∀ t ∈ D, t.size ≤ maxLen
def cntSString (D : List ByteArray) : Int := D.length
def mksSString (k : Int) (D : List ByteArray) : List ByteArray := mksG mkString 1 k D.length
theorem cntSString_le (D : List ByteArray) : 0 ≤ cntSString D ∧ cntSString D ≤ 8 * (totSString D : Int) := by unfold cntSString totSString; omega
theorem totSString_mk (k : Int) (D : List ByteArray) : totSString (mksSString k D) = totSString D := mksG_len
theorem cntSString_mk (k : Int) (D : List ByteArray) : cntSString (mksSString k D) = cntSString D := by simp only [cntSString, mksSString, mksG_len]
theorem tySString_sh {w : World} {hi : Nat} {cs : List Value} {D : List ByteArray} (h : tySString.R w hi cs D) : ∃ (A : Option Addr) (n c : Nat), cs = [.slice A n c] := by
  obtain ⟨A, n, c, rfl, _⟩ := h
  exact ⟨A, n, c, rfl⟩
theorem tySString_shM {w : World} {fp : List Nat} {cs : List Value} {D : List ByteArray} (h : tySString.M w fp cs D) : ∃ (A : Option Addr) (n c : Nat), cs = [.slice A n c] := by
  obtain ⟨A, n, c, rfl, _⟩ := h
  exact ⟨A, n, c, rfl⟩
section
variable {w : World} {hi hi2 : Nat} {D : List ByteArray} {fp : List Nat} {x0 y0 : Value}
theorem szY_SString (left : Int) (hl : 0 ≤ left) (hl2 : left ≤ 1048576) (hw : wfSString D) (h : tySString.R w hi [x0] D) :
    Calls Try.prog 112 #[x0, .int .i64 left] w fun e w' => ∃ z : Int, e = .returned (.int .i64 z) ∧ (0 ≤ z → (totSString D : Int) + z ≤ left) ∧ -1 ≤ z ∧ Below w.heap.size w w' := by
  obtain ⟨A, n, c, e, hL, hn, hr⟩ := h
  obtain rfl : x0 = .slice A n c := by simpa using e
  have q : n ≤ 9223372036854775807 := by unfold maxLen at hn; omega
  unfold totSString
  rw [hL]
  have HR := Lib.hid hr
  have HW := Lib.hid hw
  have HL := Lib.hid hL
  clear e hr hn hw hL
  by_cases hle : (n : Int) ≤ left
  case neg =>
    go_enter Try.func112, Try.ntmps112
    go_wp2
    go_ret
    exact ⟨_, rfl, fun h => by omega, by omega, Below.refl _ _⟩
  go_enter Try.func112, Try.ntmps112
  go_wp2
  go_loop [1, 5] (fun l i => ∃ (k : Nat) (z : Int), k ≤ n ∧ 0 ≤ z ∧ z + n ≤ left ∧ i = .int .i64 k ∧ l = .int .i64 z) (fun _ i => n - (intOf i).toNat)
  case atStart => exact ⟨0, _, Nat.zero_le _, by omega, by omega, rfl, rfl⟩
  case round =>
    obtain ⟨k, z, hk, hz0, hz1, rfl, rfl⟩ := hrel
    by_cases hlt : k < n
    · obtain ⟨b, o, rfl, _, hb, hc⟩ := HR.out (by omega)
      have c1 : w.cell? ⟨b, o + k, none⟩ = some (.string (D.getD k .empty)) := by
        have h := hc k hlt 0 (by decide)
        rw [show o + k * elS.K + 0 = o + k from by show o + k * 1 + 0 = o + k; omega] at h
        exact h
      have hsm : (D.getD k .empty).size ≤ maxLen := by
        have hkd : k < D.length := by rw [HL.out]; exact hlt
        rw [List.getD_eq_getElem?_getD, List.getElem?_eq_getElem hkd]
        exact HW.out _ (List.getElem_mem hkd)
      unfold maxLen at hsm
      generalize D.getD k .empty = s at c1 hsm
      clear hc
      by_cases hle : (s.size : Int) ≤ z
      · go_wp2
        go_round
        case rel => exact ⟨k + 1, _, by omega, by omega, by omega, by go_num, rfl⟩
        case measure => simp [intOf]; omega
      · go_wp2
        go_ret
        exact ⟨_, rfl, fun h => by omega, by omega, Below.refl _ _⟩
    · obtain rfl : k = n := by omega
      go_wp2
      go_ret
      exact ⟨_, rfl, fun _ => by omega, by omega, Below.refl _ _⟩
set_option maxHeartbeats 1000000 in
theorem eqY_SString (h : tySString.R w hi [x0] D) (h2 : tySString.R w hi2 [y0] D) :
    Calls Try.prog 118 #[x0, y0] w fun e w' => e = .returned (.bool true) ∧ Below w.heap.size w w' := by
  obtain ⟨A, n, c, e, hL, hn, hr⟩ := h
  obtain ⟨B, p, d, e2, hL2, _, hr2⟩ := h2
  obtain rfl : x0 = .slice A n c := by simpa using e
  obtain rfl : y0 = .slice B p d := by simpa using e2
  obtain rfl : n = p := hL.symm.trans hL2
  exact eqString_S hr hr2 (by unfold maxLen at hn; omega)
set_option maxHeartbeats 2000000 in
theorem toY_SString (h : tySString.R w hi [x0] D) (hs : totSString D ≤ 1048576) :
    Calls Try.prog 115 #[x0] w fun e w' => ∃ y0 fp, e = .returned (y0) ∧ tySString.M w' fp [y0] D ∧ (∀ b ∈ fp, w.heap.size ≤ b ∧ b < w'.heap.size) ∧ Below w.heap.size w w' := by
  obtain ⟨A, n, c, e, hL, hn, hr⟩ := h
  obtain rfl : x0 = .slice A n c := by simpa using e
  have hs2 : n ≤ 1048576 := by unfold totSString at hs; omega
  refine (toString_S hr hL hs2).mono ?_
  rintro e w1 ⟨g, rfl, hm, hg, hg2, hb⟩
  exact ⟨_, [g], rfl, ⟨_, _, _, rfl, hL, hs2, hm⟩, fun b h => by rw [List.mem_singleton] at h; subst h; exact ⟨hg, hg2⟩, hb⟩
set_option maxHeartbeats 2000000 in
theorem markY_SString (k : Int) (h0 : 0 < k) (h1 : k + 8 * totSString D ≤ 8388609) (hm : tySString.M w fp [x0] D) (_hf : ∀ b ∈ fp, b < w.heap.size) :
    Calls Try.prog 121 #[x0, .int .i64 k] w fun e w' => e = .returned (.int .i64 (k + cntSString D)) ∧ tySString.M w' fp [x0] (mksSString k D) ∧ Foot w w' fp := by
  obtain ⟨A, n, c, e, hL, hn, hr⟩ := hm
  obtain rfl : x0 = .slice A n c := by simpa using e
  unfold totSString at h1
  unfold cntSString mksSString
  rw [hL] at h1 ⊢
  refine (markString_S (c := c) k h0 (by omega) hL hn hr).mono ?_
  rintro e w1 ⟨rfl, hm, ht⟩
  exact ⟨rfl, ⟨_, _, _, rfl, mksG_len, hn, hm⟩, ht⟩
set_option maxHeartbeats 2000000 in
theorem heldY_SString (k : Int) (h0 : 0 < k) (h1 : k + 8 * totSString D ≤ 8388609) (h : tySString.R w hi [x0] (mksSString k D)) :
    Calls Try.prog 125 #[x0, .int .i64 k] w fun e w' => e = .returned (.int .i64 (k + cntSString D)) ∧ Below w.heap.size w w' := by
  obtain ⟨A, n, c, e, hL, hn, hr⟩ := h
  obtain rfl : x0 = .slice A n c := by simpa using e
  rw [show (mksSString k D).length = D.length from mksG_len] at hL
  unfold totSString at h1
  unfold cntSString
  unfold mksSString at hr
  rw [hL] at h1 hr ⊢
  refine (heldString_S (c := c) k h0 (by omega) (by omega) hr).mono ?_
  rintro e w1 ⟨rfl, hb⟩
  exact ⟨rfl, hb⟩
end
end Go.Proofs.Ytfmbadhiflaldaa
