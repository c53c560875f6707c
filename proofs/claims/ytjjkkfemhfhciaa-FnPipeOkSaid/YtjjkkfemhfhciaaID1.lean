/-
  The walk of FnPipeOk.
-/
import Derived.Test.YtjjkkfemhfhciaaIDraw2
import Derived.Test.YtjjkkfemhfhciaaIEx
namespace Go.Proofs.Ytjjkkfemhfhciaa
open Go.RowKit

section
variable {A : Option Addr} {n c : Nat} {w : World}
set_option maxHeartbeats 2000000 in
set_option maxRecDepth 100000 in
theorem dPipeOk_walk (hm : IOk 19) (hj : IJoi 21) (hl : ILea 22) (hc : Code w A n) (hcap : n ≤ c) (hcap2 : c ≤ maxLen) : Calls Try.prog 3 #[.slice A n c] w fun e w' => e = .returned (.bool true) ∧ Below w.heap.size w w' := by
  have hn := hc.1
  unfold maxLen at hn
  by_cases hbig : (1048576 : Int) < n
  · go_enter Try.func3, Try.ntmps3
    go_wp2_with fail
    go_ret
    exact ⟨rfl, Below.refl _ _⟩
  have HCODE := Lib.hid hc
  clear hc
  have HM := Lib.hid hm
  clear hm
  have HJI := Lib.hid hj
  clear hj
  have HL := Lib.hid hl
  clear hl
  have HW0 := Lib.hid (Below.refl w.heap.size w)
  go_enter Try.func3, Try.ntmps3
  have HA0 := Lib.hid (show Below w.heap.size w w from (Below.refl _ _))
  go_wp2_with fail
  refine (dDrawPipeOk_any HCODE.out hcap hcap2).mono ?_
  rintro e w1 ⟨t, r, k, rfl, ts, ⟨ra, rb⟩, ⟨ka, kb⟩, hb1⟩
  have HC1 := Lib.hid (HA0.out.trans (hb1.mono HA0.out.size))
  have HW1 := Lib.hid (HW0.out.trans (HC1.out.mono HW0.out.size))
  clear hb1
  have HT := Lib.hid (show t.size ≤ maxLen by unfold maxLen; omega)
  by_cases hp : piB t r k = true
  case neg =>
    have hp' : piB t r k = false := by simpa using hp
    have HJ := Lib.hid (show joiR t r k true = (piZ, false) by unfold joiR; rw [hp', Bool.false_and, if_neg Bool.false_ne_true])
    have HA := Lib.hid (show leaR t r k true = (piZ, false) by unfold leaR; rw [hp', Bool.false_and, if_neg Bool.false_ne_true])
    have HB := Lib.hid (show leaR t r k false = (piZ, false) by unfold leaR; rw [hp', Bool.false_and, if_neg Bool.false_ne_true])
    have HPP := Lib.hid hp'
    clear hp hp'
    have HA1 := Lib.hid (show Below w1.heap.size w1 (w1.alloc (.cells #[.string t, .int .i64 r, .int .i64 k] 24)) from ((Below.refl _ _).alloc (Nat.le_refl _) _))
    go_wp2_with fail
    refine (HM.out t r k HT.out).mono ?_
    rw [HPP.out]
    rintro e w2 ⟨rfl, hb2⟩
    have HC2 := Lib.hid (HA1.out.trans (hb2.mono HA1.out.size))
    have HW2 := Lib.hid (HW1.out.trans (HC2.out.mono HW1.out.size))
    have P_2 := Lib.hid ((Box.new w1 #[.string t, .int .i64 r, .int .i64 k] 24).below hb2 (by simp only [World.size_alloc]; omega))
    clear hb2
    have HA2 := Lib.hid (show Below w2.heap.size w2 w2 from (Below.refl _ _))
    have p_c0 := P_2.out.cell 0
    have p_c1 := P_2.out.cell 1
    have p_c2 := P_2.out.cell 2
    simp at p_c0 p_c1 p_c2
    have p_l := P_2.out.lt
    go_wp2_with fail
    refine (pipeOk_any t r k HT.out).mono ?_
    rw [HPP.out]
    rintro e w3 ⟨rfl, hb3⟩
    clear p_c0 p_c1 p_c2 p_l
    have HC3 := Lib.hid (HA2.out.trans (hb3.mono HA2.out.size))
    have HW3 := Lib.hid (HW2.out.trans (HC3.out.mono HW2.out.size))
    have P_3 := Lib.hid (P_2.out.below HC3.out P_2.out.lt)
    clear hb3
    have HA3 := Lib.hid (show Below w3.heap.size w3 w3 from (Below.refl _ _))
    have p_c0 := P_3.out.cell 0
    have p_c1 := P_3.out.cell 1
    have p_c2 := P_3.out.cell 2
    simp at p_c0 p_c1 p_c2
    have p_l := P_3.out.lt
    go_wp2_with fail
    refine (HJI.out t r k true HT.out).mono ?_
    rw [HJ.out]
    rintro e w4 ⟨rfl, hb4⟩
    clear p_c0 p_c1 p_c2 p_l
    have HC4 := Lib.hid (HA3.out.trans (hb4.mono HA3.out.size))
    have HW4 := Lib.hid (HW3.out.trans (HC4.out.mono HW3.out.size))
    have P_4 := Lib.hid (P_3.out.below HC4.out P_3.out.lt)
    clear hb4
    have HA4 := Lib.hid (show Below w4.heap.size w4 (w4.alloc (.cells #[.string piZ.1, .int .i64 piZ.2.1, .int .i64 piZ.2.2] 24)) from ((Below.refl _ _).alloc (Nat.le_refl _) _))
    have p_c0 := P_4.out.cell 0
    have p_c1 := P_4.out.cell 1
    have p_c2 := P_4.out.cell 2
    simp at p_c0 p_c1 p_c2
    have p_l := P_4.out.lt
    go_wp2_with fail
    refine (HL.out t r k true HT.out).mono ?_
    rw [HA.out]
    rintro e w5 ⟨rfl, hb5⟩
    clear p_c0 p_c1 p_c2 p_l
    have HC5 := Lib.hid (HA4.out.trans (hb5.mono HA4.out.size))
    have HW5 := Lib.hid (HW4.out.trans (HC5.out.mono HW4.out.size))
    have P_5 := Lib.hid (P_4.out.below HC5.out P_4.out.lt)
    have J_5 := Lib.hid ((Box.new w4 #[.string piZ.1, .int .i64 piZ.2.1, .int .i64 piZ.2.2] 24).below hb5 (by simp only [World.size_alloc]; omega))
    clear hb5
    have HA5 := Lib.hid (show Below w5.heap.size w5 (w5.alloc (.cells #[.string piZ.1, .int .i64 piZ.2.1, .int .i64 piZ.2.2] 24)) from ((Below.refl _ _).alloc (Nat.le_refl _) _))
    have p_c0 := P_5.out.cell 0
    have p_c1 := P_5.out.cell 1
    have p_c2 := P_5.out.cell 2
    have j_c0 := J_5.out.cell 0
    have j_c1 := J_5.out.cell 1
    have j_c2 := J_5.out.cell 2
    simp at p_c0 p_c1 p_c2 j_c0 j_c1 j_c2
    have p_l := P_5.out.lt
    have j_l := J_5.out.lt
    go_wp2_with fail
    refine (HL.out t r k false HT.out).mono ?_
    rw [HB.out]
    rintro e w6 ⟨rfl, hb6⟩
    clear p_c0 p_c1 p_c2 j_c0 j_c1 j_c2 p_l j_l
    have HC6 := Lib.hid (HA5.out.trans (hb6.mono HA5.out.size))
    have HW6 := Lib.hid (HW5.out.trans (HC6.out.mono HW5.out.size))
    have P_6 := Lib.hid (P_5.out.below HC6.out P_5.out.lt)
    have J_6 := Lib.hid (J_5.out.below HC6.out J_5.out.lt)
    have K_6 := Lib.hid ((Box.new w5 #[.string piZ.1, .int .i64 piZ.2.1, .int .i64 piZ.2.2] 24).below hb6 (by simp only [World.size_alloc]; omega))
    clear hb6
    have HA6 := Lib.hid (show Below w6.heap.size w6 (w6.alloc (.cells #[.string piZ.1, .int .i64 piZ.2.1, .int .i64 piZ.2.2] 24)) from ((Below.refl _ _).alloc (Nat.le_refl _) _))
    have p_c0 := P_6.out.cell 0
    have p_c1 := P_6.out.cell 1
    have p_c2 := P_6.out.cell 2
    have j_c0 := J_6.out.cell 0
    have j_c1 := J_6.out.cell 1
    have j_c2 := J_6.out.cell 2
    have k_c0 := K_6.out.cell 0
    have k_c1 := K_6.out.cell 1
    have k_c2 := K_6.out.cell 2
    simp at p_c0 p_c1 p_c2 j_c0 j_c1 j_c2 k_c0 k_c1 k_c2
    have p_l := P_6.out.lt
    have j_l := J_6.out.lt
    have k_l := K_6.out.lt
    go_wp2_with fail
    go_ret
    exact ⟨rfl, HW6.out.trans (HA6.out.mono HW6.out.size)⟩
  have HPP := Lib.hid hp
  clear hp
  have HA1 := Lib.hid (show Below w1.heap.size w1 (w1.alloc (.cells #[.string t, .int .i64 r, .int .i64 k] 24)) from ((Below.refl _ _).alloc (Nat.le_refl _) _))
  go_wp2_with fail
  refine (HM.out t r k HT.out).mono ?_
  rw [HPP.out]
  rintro e w2 ⟨rfl, hb2⟩
  have HC2 := Lib.hid (HA1.out.trans (hb2.mono HA1.out.size))
  have HW2 := Lib.hid (HW1.out.trans (HC2.out.mono HW1.out.size))
  have P_2 := Lib.hid ((Box.new w1 #[.string t, .int .i64 r, .int .i64 k] 24).below hb2 (by simp only [World.size_alloc]; omega))
  clear hb2
  have HA2 := Lib.hid (show Below w2.heap.size w2 w2 from (Below.refl _ _))
  have p_c0 := P_2.out.cell 0
  have p_c1 := P_2.out.cell 1
  have p_c2 := P_2.out.cell 2
  simp at p_c0 p_c1 p_c2
  have p_l := P_2.out.lt
  go_wp2_with fail
  refine (pipeOk_any t r k HT.out).mono ?_
  rw [HPP.out]
  rintro e w3 ⟨rfl, hb3⟩
  clear p_c0 p_c1 p_c2 p_l
  have HC3 := Lib.hid (HA2.out.trans (hb3.mono HA2.out.size))
  have HW3 := Lib.hid (HW2.out.trans (HC3.out.mono HW2.out.size))
  have P_3 := Lib.hid (P_2.out.below HC3.out P_2.out.lt)
  clear hb3
  have HA3 := Lib.hid (show Below w3.heap.size w3 w3 from (Below.refl _ _))
  have p_c0 := P_3.out.cell 0
  have p_c1 := P_3.out.cell 1
  have p_c2 := P_3.out.cell 2
  simp at p_c0 p_c1 p_c2
  have p_l := P_3.out.lt
  go_wp2_with fail
  refine (HJI.out t r k true HT.out).mono ?_
  rintro e w4 ⟨rfl, hb4⟩
  clear p_c0 p_c1 p_c2 p_l
  have HC4 := Lib.hid (HA3.out.trans (hb4.mono HA3.out.size))
  have HW4 := Lib.hid (HW3.out.trans (HC4.out.mono HW3.out.size))
  have P_4 := Lib.hid (P_3.out.below HC4.out P_3.out.lt)
  clear hb4
  have HA4 := Lib.hid (show Below w4.heap.size w4 (w4.alloc (.cells #[.string (joiR t r k true).1.1, .int .i64 (joiR t r k true).1.2.1, .int .i64 (joiR t r k true).1.2.2] 24)) from ((Below.refl _ _).alloc (Nat.le_refl _) _))
  have p_c0 := P_4.out.cell 0
  have p_c1 := P_4.out.cell 1
  have p_c2 := P_4.out.cell 2
  simp at p_c0 p_c1 p_c2
  have p_l := P_4.out.lt
  go_wp2_with fail
  refine (HL.out t r k true HT.out).mono ?_
  rintro e w5 ⟨rfl, hb5⟩
  clear p_c0 p_c1 p_c2 p_l
  have HC5 := Lib.hid (HA4.out.trans (hb5.mono HA4.out.size))
  have HW5 := Lib.hid (HW4.out.trans (HC5.out.mono HW4.out.size))
  have P_5 := Lib.hid (P_4.out.below HC5.out P_4.out.lt)
  have J_5 := Lib.hid ((Box.new w4 #[.string (joiR t r k true).1.1, .int .i64 (joiR t r k true).1.2.1, .int .i64 (joiR t r k true).1.2.2] 24).below hb5 (by simp only [World.size_alloc]; omega))
  clear hb5
  have HA5 := Lib.hid (show Below w5.heap.size w5 (w5.alloc (.cells #[.string (leaR t r k true).1.1, .int .i64 (leaR t r k true).1.2.1, .int .i64 (leaR t r k true).1.2.2] 24)) from ((Below.refl _ _).alloc (Nat.le_refl _) _))
  have p_c0 := P_5.out.cell 0
  have p_c1 := P_5.out.cell 1
  have p_c2 := P_5.out.cell 2
  have j_c0 := J_5.out.cell 0
  have j_c1 := J_5.out.cell 1
  have j_c2 := J_5.out.cell 2
  simp at p_c0 p_c1 p_c2 j_c0 j_c1 j_c2
  have p_l := P_5.out.lt
  have j_l := J_5.out.lt
  go_wp2_with fail
  refine (HL.out t r k false HT.out).mono ?_
  rintro e w6 ⟨rfl, hb6⟩
  clear p_c0 p_c1 p_c2 j_c0 j_c1 j_c2 p_l j_l
  have HC6 := Lib.hid (HA5.out.trans (hb6.mono HA5.out.size))
  have HW6 := Lib.hid (HW5.out.trans (HC6.out.mono HW5.out.size))
  have P_6 := Lib.hid (P_5.out.below HC6.out P_5.out.lt)
  have J_6 := Lib.hid (J_5.out.below HC6.out J_5.out.lt)
  have K_6 := Lib.hid ((Box.new w5 #[.string (leaR t r k true).1.1, .int .i64 (leaR t r k true).1.2.1, .int .i64 (leaR t r k true).1.2.2] 24).below hb6 (by simp only [World.size_alloc]; omega))
  clear hb6
  have HA6 := Lib.hid (show Below w6.heap.size w6 (w6.alloc (.cells #[.string (leaR t r k false).1.1, .int .i64 (leaR t r k false).1.2.1, .int .i64 (leaR t r k false).1.2.2] 24)) from ((Below.refl _ _).alloc (Nat.le_refl _) _))
  have p_c0 := P_6.out.cell 0
  have p_c1 := P_6.out.cell 1
  have p_c2 := P_6.out.cell 2
  have j_c0 := J_6.out.cell 0
  have j_c1 := J_6.out.cell 1
  have j_c2 := J_6.out.cell 2
  have k_c0 := K_6.out.cell 0
  have k_c1 := K_6.out.cell 1
  have k_c2 := K_6.out.cell 2
  simp at p_c0 p_c1 p_c2 j_c0 j_c1 j_c2 k_c0 k_c1 k_c2
  have p_l := P_6.out.lt
  have j_l := J_6.out.lt
  have k_l := K_6.out.lt
  go_wp2_with fail
  go_ret
  exact ⟨rfl, HW6.out.trans (HA6.out.mono HW6.out.size)⟩
end
end Go.Proofs.Ytjjkkfemhfhciaa
