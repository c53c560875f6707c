/-
  The model's ModeRead.
-/
import Derived.Test.YtacndjbhlhbknaaUS6
namespace Go.Proofs.Ytacndjbhlhbknaa
open Go.RowKit

/-- the first mode below k with this text -/
def rdTo (s : ByteArray) : Nat → Option Nat
  | 0 => none
  | k + 1 => match rdTo s k with
    | some j => some j
    | none => if textS k = s then some k else none
theorem rdTo_mono {s : ByteArray} {j : Nat} : ∀ {n k : Nat}, k ≤ n → rdTo s k = some j → rdTo s n = some j
  | 0, k, h, h2 => by obtain rfl : k = 0 := by omega
                      exact h2
  | n + 1, k, h, h2 => by
    by_cases e : k = n + 1
    · subst e; exact h2
    · have h3 := rdTo_mono (show k ≤ n by omega) h2
      unfold rdTo
      rw [h3]
theorem rdTo_hit {s : ByteArray} {k : Nat} (h : rdTo s k = none) (he : textS k = s) : rdTo s (k + 1) = some k := by
  unfold rdTo
  rw [h]
  exact if_pos he
theorem rdTo_miss {s : ByteArray} {k : Nat} (h : rdTo s k = none) (he : ¬ textS k = s) : rdTo s (k + 1) = none := by
  unfold rdTo
  rw [h]
  exact if_neg he
def readN (s : ByteArray) : Int := match rdTo s 512 with | some j => j | none => 0
def readB (s : ByteArray) : Bool := (rdTo s 512).isSome
theorem readN_some {s : ByteArray} {j : Nat} (h : rdTo s 512 = some j) : readN s = j := by unfold readN; rw [h]
theorem readN_none {s : ByteArray} (h : rdTo s 512 = none) : readN s = 0 := by unfold readN; rw [h]
theorem readB_some {s : ByteArray} {j : Nat} (h : rdTo s 512 = some j) : readB s = true := by unfold readB; rw [h]; rfl
theorem readB_none {s : ByteArray} (h : rdTo s 512 = none) : readB s = false := by unfold readB; rw [h]; rfl
theorem str_ne {a b : ByteArray} (h : ¬ a = b) : (a.toList == b.toList) = false := by
  cases e : (a.toList == b.toList)
  · rfl
  · rw [ByteArray.toList_eq, ByteArray.toList_eq] at e
    exact absurd (ByteArray.ext (Array.ext' (eq_of_beq e))) h
def CText (f : Nat) : Prop := ∀ ⦃w : World⦄ (m : Int), Calls Try.prog f #[.int .i64 m] w fun e w' => e = .returned (.string (textS m)) ∧ Below w.heap.size w w'
def CRead (f : Nat) : Prop := ∀ ⦃w : World⦄ (s : ByteArray), s.size ≤ maxLen → Calls Try.prog f #[.string s] w fun e w' => e = .returned (.tuple #[.int .i64 (readN s), .bool (readB s)]) ∧ Below w.heap.size w w'
theorem modeTextS : CText 28 := fun _ m => modeText_any m

set_option maxHeartbeats 1000000 in
set_option maxRecDepth 100000 in
theorem modeRead_any : CRead 31 := by
  intro w s hs
  have hs' : s.size ≤ 9223372036854775807 := by unfold maxLen at hs; omega
  clear hs
  go_enter Try.func31, Try.ntmps31
  go_wp2_with fail
  go_loopw [4] (fun i wr => ∃ k : Nat, k ≤ 512 ∧ i = .int .i64 k ∧ rdTo s k = none ∧ Below w.heap.size w wr) (fun i _ => 512 - (intOf i).toNat)
  case atStart => exact ⟨0, Nat.zero_le _, rfl, rfl, Below.refl _ _⟩
  case round =>
    obtain ⟨k, hk, rfl, hn, hb⟩ := hrel
    have HN := Lib.hid hn
    have HB := Lib.hid hb
    clear hn hb
    by_cases hlt : k < 512
    · go_wp2_with fail
      refine (modeText_any (k : Int)).mono ?_
      rintro e w1 ⟨rfl, hb1⟩
      have HB1 := Lib.hid (HB.out.trans (hb1.mono HB.out.size))
      clear hb1
      have hts := textS_size (k : Int)
      by_cases he : textS k = s
      · have HX := Lib.hid (rdTo_mono (show k + 1 ≤ 512 from hlt) (rdTo_hit HN.out he))
        rw [he]
        clear hts
        go_wp2_with fail
        refine bodyPost_ret (v := .tuple #[.int .i64 k, .bool true]) (by simp [results, Try.results31, go_sem]) rfl ⟨by rw [readN_some HX.out, readB_some HX.out], HB1.out⟩
      · have HX := Lib.hid (rdTo_miss HN.out he)
        generalize textS k = t at he hts ⊢
        have hb : (t.toList == s.toList) = false := str_ne he
        go_wp2_with fail
        exact ⟨⟨k + 1, by omega, by go_num, HX.out, HB1.out⟩, by simp [intOf]; omega⟩
    · obtain rfl : k = 512 := by omega
      go_wp2_with fail
      refine bodyPost_ret (v := .tuple #[.int .i64 0, .bool false]) (by simp [results, Try.results31, go_sem]) rfl ⟨by rw [readN_none HN.out, readB_none HN.out], HB.out⟩
end Go.Proofs.Ytacndjbhlhbknaa
