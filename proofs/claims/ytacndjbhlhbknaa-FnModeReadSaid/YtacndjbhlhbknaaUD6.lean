/-
  The walk of FnModeText on drawn arguments.
-/
import Derived.Test.YtacndjbhlhbknaaUDraw2
namespace Go.Proofs.Ytacndjbhlhbknaa
open Go.RowKit

section
variable {A : Option Addr} {n c : Nat} {w : World}
theorem str_map {l : List Int} (hl : ∀ x ∈ l, 0 ≤ x ∧ x ≤ 255) : l.map ((fun c : UInt8 => (c.toNat : Int)) ∘ fun n : Int => UInt8.ofNat n.toNat) = l := by
  conv => rhs; rw [← List.map_id l]
  apply List.map_congr_left
  intro x hx
  have h := hl x hx
  simp only [Function.comp, id, UInt8.toNat_ofNat']
  omega
theorem str_inj {a b : List Int} (ha : ∀ x ∈ a, 0 ≤ x ∧ x ≤ 255) (hb : ∀ x ∈ b, 0 ≤ x ∧ x ≤ 255) (h : strOfNums a = strOfNums b) : a = b := by
  have h1 := congrArg (fun s => s.data.toList.map (fun c : UInt8 => (c.toNat : Int))) h
  simp only [strOfNums_data, List.map_map] at h1
  rwa [str_map ha, str_map hb] at h1
theorem sgn_letter (k : Nat) : ([114, 119, 120] : List Int).getD (k % 3) 0 = 114 ∨ ([114, 119, 120] : List Int).getD (k % 3) 0 = 119 ∨ ([114, 119, 120] : List Int).getD (k % 3) 0 = 120 := by
  obtain h | h | h : k % 3 = 0 ∨ k % 3 = 1 ∨ k % 3 = 2 := by omega
  all_goals rw [h]; decide
theorem sgn_in (m : Int) (k : Nat) : 0 ≤ sgn m k ∧ sgn m k ≤ 255 := by
  have h := sgn_letter k
  unfold sgn
  split <;> omega
theorem sgn_bit {j m : Int} {k : Nat} (h : sgn j k = sgn m k) : j / 2 ^ (8 - k) % 2 = m / 2 ^ (8 - k) % 2 := by
  have h1 := sgn_letter k
  have h2 : j / 2 ^ (8 - k) % 2 = 0 ∨ j / 2 ^ (8 - k) % 2 = 1 := by omega
  have h3 : m / 2 ^ (8 - k) % 2 = 0 ∨ m / 2 ^ (8 - k) % 2 = 1 := by omega
  unfold sgn at h
  split at h <;> split at h <;> omega
theorem textS_inj {j m : Int} (hj : inB j 0 511 = true) (hm : inB m 0 511 = true) (h : textS j = textS m) : j = m := by
  unfold textS at h
  rw [if_pos hj, if_pos hm] at h
  have hin : ∀ m : Int, ∀ x ∈ textL m 9, 0 ≤ x ∧ x ≤ 255 := by
    intro m x hx
    obtain ⟨k, _, rfl⟩ := List.mem_map.1 hx
    exact sgn_in m k
  have h1 := str_inj (hin j) (hin m) h
  have h2 := List.map_inj_left.1 h1
  have h3 : ∀ k, k < 9 → j / 2 ^ (8 - k) % 2 = m / 2 ^ (8 - k) % 2 := fun k hk => sgn_bit (h2 k (List.mem_range.2 hk))
  have a0 := h3 0 (by omega)
  have a1 := h3 1 (by omega)
  have a2 := h3 2 (by omega)
  have a3 := h3 3 (by omega)
  have a4 := h3 4 (by omega)
  have a5 := h3 5 (by omega)
  have a6 := h3 6 (by omega)
  have a7 := h3 7 (by omega)
  have a8 := h3 8 (by omega)
  simp only [Nat.sub_zero, Nat.reduceSub, Int.reducePow] at a0 a1 a2 a3 a4 a5 a6 a7 a8
  have b1 := of_inB hj
  have b2 := of_inB hm
  omega
theorem rdTo_sound {s : ByteArray} {j : Nat} : ∀ {n : Nat}, rdTo s n = some j → textS j = s ∧ j < n
  | 0, h => by unfold rdTo at h; exact absurd h (by simp)
  | n + 1, h => by
    cases h1 : rdTo s n with
    | some i =>
      have h2 := rdTo_sound h1
      unfold rdTo at h
      rw [h1] at h
      injection h with h
      subst h
      exact ⟨h2.1, by omega⟩
    | none =>
      by_cases he : textS n = s
      · rw [rdTo_hit h1 he] at h
        injection h with h
        subst h
        exact ⟨he, by omega⟩
      · rw [rdTo_miss h1 he] at h
        exact absurd h (by simp)
theorem rdTo_none {s : ByteArray} : ∀ {n k : Nat}, rdTo s n = none → k < n → ¬ textS k = s
  | 0, k, _, hk => by omega
  | n + 1, k, h, hk => by
    cases h1 : rdTo s n with
    | some i => rw [rdTo_mono (show n ≤ n + 1 by omega) h1] at h; exact absurd h (by simp)
    | none =>
      intro he
      by_cases e : k = n
      · subst e
        rw [rdTo_hit h1 he] at h
        exact absurd h (by simp)
      · exact rdTo_none h1 (by omega) he
theorem text_back {m : Int} (hm : inB m 0 511 = true) : readN (textS m) = m ∧ readB (textS m) = true ∧ (textS m).size = 9 := by
  obtain ⟨m0, m1⟩ := of_inB hm
  obtain ⟨k, rfl⟩ : ∃ k : Nat, m = k := ⟨m.toNat, by omega⟩
  have hz : (textS k).size = 9 := by
    unfold textS
    rw [if_pos hm, strOfNums_size, textL_len]
  cases h1 : rdTo (textS k) 512 with
  | none => exact absurd rfl (rdTo_none h1 (by omega))
  | some j =>
    obtain ⟨h2, h3⟩ := rdTo_sound h1
    have h4 := textS_inj (inB_of (by omega)) hm h2
    exact ⟨by rw [readN_some h1, h4], readB_some h1, hz⟩
theorem text_ne {m : Int} (hm : inB m 0 511 = true) : ((textS m).toList == ([] : List UInt8)) = false := by
  have h := (text_back hm).2.2
  rw [beq_eq_false_iff_ne]
  intro e
  rw [ByteArray.toList_eq] at e
  have h2 := congrArg List.length e
  simp only [Array.length_toList, List.length_nil] at h2
  have h3 : (textS m).data.size = 9 := h
  omega
theorem read_back {s : ByteArray} (h : readB s = true) : textS (readN s) = s := by
  unfold readB at h
  cases h1 : rdTo s 512 with
  | none => rw [h1] at h; exact absurd h (by simp)
  | some j => rw [readN_some h1]; exact (rdTo_sound h1).1


set_option maxHeartbeats 4000000 in
set_option maxRecDepth 100000 in
theorem dModeText_walk (hm : CText 27) (hb : CRead 29) (hc : Code w A n) (hcap : n ≤ c) (hcap2 : c ≤ maxLen) : Calls Try.prog 5 #[.slice A n c] w fun e w' => e = .returned (.bool true) ∧ Below w.heap.size w w' := by
  have hn := hc.1
  unfold maxLen at hn
  by_cases hbig : (1048576 : Int) < n
  · go_enter Try.func5, Try.ntmps5
    go_wp2_with fail
    go_ret
    exact ⟨rfl, Below.refl _ _⟩
  have HCODE := Lib.hid hc
  clear hc
  have HM := Lib.hid hm
  clear hm
  have HB := Lib.hid hb
  clear hb
  have HW0 := Lib.hid (Below.refl w.heap.size w)
  go_enter Try.func5, Try.ntmps5
  have HA0 := Lib.hid (show Below w.heap.size w w from (Below.refl _ _))
  go_wp2_with fail
  refine (dDrawModeText_any HCODE.out hcap hcap2).mono ?_
  rintro e w1 ⟨m, rfl, lm, um, hb1⟩
  have HC1 := Lib.hid (HA0.out.trans (hb1.mono HA0.out.size))
  have HW1 := Lib.hid (HW0.out.trans (HC1.out.mono HW0.out.size))
  clear hb1
  have HA1 := Lib.hid (show Below w1.heap.size w1 w1 from (Below.refl _ _))
  go_wp2_with fail
  refine (HM.out m).mono ?_
  rintro e w2 ⟨rfl, hb2⟩
  have HC2 := Lib.hid (HA1.out.trans (hb2.mono HA1.out.size))
  have HW2 := Lib.hid (HW1.out.trans (HC2.out.mono HW1.out.size))
  clear hb2
  have HA2 := Lib.hid (show Below w2.heap.size w2 w2 from (Below.refl _ _))
  go_wp2_with fail
  refine (modeTextS m).mono ?_
  rintro e w3 ⟨rfl, hb3⟩
  have HC3 := Lib.hid (HA2.out.trans (hb3.mono HA2.out.size))
  have HW3 := Lib.hid (HW2.out.trans (HC3.out.mono HW2.out.size))
  clear hb3
  by_cases hi : inB m 0 511 = true
  case neg =>
    have ht : textS m = .empty := if_neg hi
    rw [ht]
    have HA3 := Lib.hid (show Below w3.heap.size w3 w3 from (Below.refl _ _))
    go_wp2_with fail
    go_ret
    exact ⟨rfl, HW3.out⟩
  obtain ⟨hN, hB, hz⟩ := text_back hi
  have HN := Lib.hid hN
  have HB' := Lib.hid hB
  have e0 := text_ne hi
  clear hN hB
  have HA3 := Lib.hid (show Below w3.heap.size w3 w3 from (Below.refl _ _))
  go_wp2_with fail
  refine (HB.out (textS m) (by unfold maxLen; omega)).mono ?_
  rintro e w4 ⟨rfl, hb4⟩
  have HC4 := Lib.hid (HA3.out.trans (hb4.mono HA3.out.size))
  have HW4 := Lib.hid (HW3.out.trans (HC4.out.mono HW3.out.size))
  clear hb4
  rw [HN.out, HB'.out]
  have HA4 := Lib.hid (show Below w4.heap.size w4 w4 from (Below.refl _ _))
  go_wp2_with fail
  go_ret
  exact ⟨ret_bool (by simp), HW4.out⟩
end
end Go.Proofs.Ytacndjbhlhbknaa
