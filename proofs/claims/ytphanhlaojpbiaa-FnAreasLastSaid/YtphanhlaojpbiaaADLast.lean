/-
  The walk of FnAreasLast on drawn arguments.
-/
import Derived.Test.YtphanhlaojpbiaaADOk
import Derived.Test.YtphanhlaojpbiaaReg
import Derived.Deep.RegionHeld3
namespace Go.Proofs.Ytphanhlaojpbiaa
open Go.RowKit

section
variable {A : Option Addr} {n c : Nat} {w : World}
set_option maxHeartbeats 8000000 in
set_option maxRecDepth 100000 in
theorem dAreasLast_walk (I : ImplA) (hc : Code w A n) (hcap : n ≤ c) (hcap2 : c ≤ maxLen) :
    Calls Try.prog 11 #[.slice A n c] w fun e w' => e = .returned (.bool true) ∧ Below w.heap.size w w' := by
  have hn := hc.1
  unfold maxLen at hn
  by_cases hbig : (1048576 : Int) < n
  · go_enter Try.func11, Try.ntmps11
    go_wp2_with fail
    go_ret
    exact ⟨rfl, Below.refl _ _⟩
  have HC0 := Lib.hid hc
  have HI := Lib.hid I
  have HW0 := Lib.hid (Below.refl w.heap.size w)
  clear hc I
  go_enter Try.func11, Try.ntmps11
  go_wp2_with fail
  refine (drawAreasSet_any HC0.out hcap hcap2).mono ?_
  rintro e w1 ⟨v, l, p, m, b, rfl, p0, p1, m0, m1, ho, ⟨hl7, htl⟩, hb1⟩
  obtain ⟨C, c1, rfl, hr⟩ := ho.row
  have HR1 := Lib.hid hr
  have HM := Lib.hid (show l.length ≤ maxLen by unfold maxLen; omega)
  have HMM := Lib.hid (show l.length ≤ 9223372036854775807 by omega)
  have HTL := Lib.hid htl
  clear ho hr htl
  have HW1 := Lib.hid (HW0.out.trans (hb1.mono HW0.out.size))
  clear hb1
  go_wp2_with fail
  refine (HI.out.set p m b HR1.out rfl HM.out HTL.out (by omega)).mono ?_
  rintro e w2 ⟨CHX, kHX, dHX, rfl, hm, hb2⟩
  have hkHX := hm.1
  subst hkHX
  have HX2 := Lib.hid hm.2.2.1
  have LHX := Lib.hid (show (setsR l p m b).length ≤ maxLen by have := hm.2.1; unfold maxLen; omega)
  have MHX := Lib.hid (show (setsR l p m b).length ≤ 9223372036854775807 by have := hm.2.1; omega)
  clear hm
  have HW2 := Lib.hid (HW1.out.trans (hb2.mono HW1.out.size))
  have HR2 := Lib.hid (HR1.out.below hb2)
  clear hb2
  go_wp2_with fail
  refine (setS_any p m b HR2.out rfl HM.out).mono ?_
  rintro e w3 ⟨vHY, rfl, ho, hb3⟩
  obtain ⟨CHY, dHY, rfl, hrHY⟩ := ho.row
  have HY3 := Lib.hid hrHY
  clear ho hrHY
  have HW3 := Lib.hid (HW2.out.trans (hb3.mono HW2.out.size))
  have HR3 := Lib.hid (HR2.out.below hb3)
  have HX3 := Lib.hid (HX2.out.below hb3)
  clear hb3
  go_wp2_with fail
  refine (qdAreas_any HX3.out HY3.out MHX.out).mono ?_
  rintro e w4 ⟨rfl, hb4⟩
  have HW4 := Lib.hid (HW3.out.trans (hb4.mono HW3.out.size))
  have HR4 := Lib.hid (HR3.out.below hb4)
  have HX4 := Lib.hid (HX3.out.below hb4)
  have HY4 := Lib.hid (HY3.out.below hb4)
  clear hb4
  by_cases hB : setsB l p m b = true
  rotate_left
  · skip
    rw [Bool.not_eq_true] at hB
    go_wp2_with fail
    refine (qdAreas_any HX4.out HY4.out MHX.out).mono ?_
    rintro e w5 ⟨rfl, hb5⟩
    have HW5 := Lib.hid (HW4.out.trans (hb5.mono HW4.out.size))
    have HR5 := Lib.hid (HR4.out.below hb5)
    have HX5 := Lib.hid (HX4.out.below hb5)
    have HY5 := Lib.hid (HY4.out.below hb5)
    clear hb5
    go_wp2_with fail
    go_ret
    exact ⟨rfl, HW5.out⟩
  go_wp2_with fail
  refine (HI.out.set p m (!b) HX4.out rfl LHX.out (topL_setsR _ _ _ _) (by omega)).mono ?_
  rintro e w5 ⟨CHG, kHG, dHG, rfl, hm, hb5⟩
  have hkHG := hm.1
  subst hkHG
  have HG5 := Lib.hid hm.2.2.1
  have LHG := Lib.hid (show (setsR (setsR l p m b) p m (!b)).length ≤ maxLen by have := hm.2.1; unfold maxLen; omega)
  have MHG := Lib.hid (show (setsR (setsR l p m b) p m (!b)).length ≤ 9223372036854775807 by have := hm.2.1; omega)
  clear hm
  have HW5 := Lib.hid (HW4.out.trans (hb5.mono HW4.out.size))
  have HR5 := Lib.hid (HR4.out.below hb5)
  have HX5 := Lib.hid (HX4.out.below hb5)
  clear hb5
  go_wp2_with fail
  refine (HI.out.set p m (!b) HR5.out rfl HM.out HTL.out (by omega)).mono ?_
  rintro e w6 ⟨CHZ, kHZ, dHZ, rfl, hm, hb6⟩
  have hkHZ := hm.1
  subst hkHZ
  have HZ6 := Lib.hid hm.2.2.1
  have LHZ := Lib.hid (show (setsR l p m (!b)).length ≤ maxLen by have := hm.2.1; unfold maxLen; omega)
  have MHZ := Lib.hid (show (setsR l p m (!b)).length ≤ 9223372036854775807 by have := hm.2.1; omega)
  clear hm
  have HW6 := Lib.hid (HW5.out.trans (hb6.mono HW5.out.size))
  have HR6 := Lib.hid (HR5.out.below hb6)
  have HX6 := Lib.hid (HX5.out.below hb6)
  have HG6 := Lib.hid (HG5.out.below hb6)
  clear hb6
  have hlaw : setsB (setsR l p m b) p m (!b) = true → setsB l p m (!b) = true → okL (setsR (setsR l p m b) p m (!b)) = true ∧ okL (setsR l p m (!b)) = true ∧ ∀ x, cov (setsR (setsR l p m b) p m (!b)) x = cov (setsR l p m (!b)) x := fun h1 h2 =>
    ⟨by rw [(setsB_parts h1).2.2.2]; exact (setsB_parts h1).2.2.1, by rw [(setsB_parts h2).2.2.2]; exact (setsB_parts h2).2.2.1, law_last hB h1 h2⟩
  have HLAW := Lib.hid hlaw
  have HY6 := Lib.hid HG6.out
  have LY := Lib.hid LHG.out
  have MY := Lib.hid MHG.out
  have TY := Lib.hid (topL_setsR (setsR l p m b) p m (!b))
  clear HG6 LHG MHG hlaw
  generalize setsR (setsR l p m b) p m (!b) = Y at HY6 LY MY TY HLAW ⊢
  generalize setsB (setsR l p m b) p m (!b) = q at HLAW ⊢
  generalize setsB l p m (!b) = r at HLAW ⊢
  have LZ := Lib.hid (show (setsR l p m (!b)).length ≤ maxLen from LHZ.out)
  have MZ := Lib.hid (show (setsR l p m (!b)).length ≤ 9223372036854775807 from MHZ.out)
  clear LHZ MHZ
  have TZ := Lib.hid (topL_setsR l p m (!b))
  generalize setsR l p m (!b) = Z at HZ6 LZ MZ TZ HLAW ⊢
  have hmy := MY.out
  have hmz := MZ.out
  go_wp2_with fail
  go_loopw [15] (fun i wr => ∃ k : Nat, k ≤ 16 ∧ i = .int .i64 k ∧ Below w.heap.size w wr ∧ Below w6.heap.size w6 wr) (fun i _ => 16 - (intOf i).toNat)
  case atStart => exact ⟨0, Nat.zero_le _, rfl, HW6.out, Below.refl _ _⟩
  case round =>
    obtain ⟨k, hk, rfl, hb, hb'⟩ := hrel
    have HV := Lib.hid hb
    have HV' := Lib.hid hb'
    clear hb hb'
    by_cases hlt : k < 16
    rotate_left
    · obtain rfl : k = 16 := by omega
      go_wp2
      go_ret
      exact ⟨rfl, HV.out⟩
    have hk1 : (k : Int) < 16 := by omega
    have hk2 : (0 : Int) ≤ k := by omega
    cases q
    · go_wp2
      go_ret
      exact ⟨rfl, HV.out⟩
    cases r
    · go_wp2
      go_ret
      exact ⟨rfl, HV.out⟩
    have hl1 := HLAW.out rfl rfl
    have HOY := Lib.hid hl1.1
    have HOZ := Lib.hid hl1.2.1
    have hcv := hl1.2.2 k
    clear hl1
    go_wp2_with fail
    refine (HI.out.at_ k (HY6.out.below HV'.out) rfl LY.out TY.out).mono ?_
    rintro e w8 ⟨rfl, hb8⟩
    have HV8 := Lib.hid (HV.out.trans (hb8.mono HV.out.size))
    have HV8' := Lib.hid (HV'.out.trans (hb8.mono HV'.out.size))
    clear hb8
    go_wp2_with fail
    refine (HI.out.at_ k (HZ6.out.below HV8'.out) rfl LZ.out TZ.out).mono ?_
    rintro e w9 ⟨rfl, hb9⟩
    have HV9 := Lib.hid (HV8.out.trans (hb9.mono HV8.out.size))
    have HV9' := Lib.hid (HV8'.out.trans (hb9.mono HV8'.out.size))
    clear hb9
    rcases at_cov HOY.out (k : Int) with ⟨j, hj, ha, _, hc1⟩ | ⟨ha, hc1⟩ <;> rcases at_cov HOZ.out (k : Int) with ⟨t, ht, ha', _, hc2⟩ | ⟨ha', hc2⟩ <;> rw [hc1, hc2] at hcv <;> rw [ha, ha'] <;> clear ha ha' hc1 hc2
    rotate_left
    · cases hcv
    · cases hcv
    · clear hcv
      go_wp2_with fail
      refine wp_region_held_drew (S := fun w' => True) (by kernel_rfl) ⟨⟩ (fun hHeld => ?_)
      refine wpAnyH_take (i := 0) (v := ?vo0) rfl (by kernel_rfl) (by kernel_rfl) (by kernel_rfl) (fun _ _ _ h => h) (Or.inl ⟨by rfl, ?hyo0⟩) (by assumption) ?resto0
      case hyo0 =>
        intro w hSw
        try dsimp only at hSw
        go_simp
        try with_reducible rfl
      simp only [Act.put, List.setIfInBounds_toArray, List.set_cons_zero, List.set_cons_succ, List.getElem_toArray, List.getElem_cons_zero]
      refine wpAnyH_take (i := 1) (v := ?vo1) rfl (by kernel_rfl) (by kernel_rfl) (by kernel_rfl) (fun _ _ _ h => h) (Or.inl ⟨by rfl, ?hyo1⟩) (by assumption) ?resto1
      case hyo1 =>
        intro w hSw
        try dsimp only at hSw
        go_simp
        try with_reducible rfl
      simp only [Act.put, List.setIfInBounds_toArray, List.set_cons_zero, List.set_cons_succ, List.getElem_toArray, List.getElem_cons_zero, List.getElem_cons_succ]
      refine wpAnyH_take (i := 2) (v := ?vo2) rfl (by kernel_rfl) (by kernel_rfl) (by kernel_rfl) (fun _ _ _ h => h) (Or.inl ⟨by rfl, ?hyo2⟩) (by assumption) ?resto2
      case hyo2 =>
        intro w hSw
        try dsimp only at hSw
        go_simp
        try with_reducible rfl
      simp only [Act.put, List.setIfInBounds_toArray, List.set_cons_zero, List.set_cons_succ, List.getElem_toArray, List.getElem_cons_zero, List.getElem_cons_succ]
      refine wpAnyH_take (i := 3) (v := ?vo3) rfl (by kernel_rfl) (by kernel_rfl) (by kernel_rfl) (fun _ _ _ h => h) (Or.inl ⟨by rfl, ?hyo3⟩) (by assumption) ?resto3
      case hyo3 =>
        intro w hSw
        try dsimp only at hSw
        go_simp
        try with_reducible rfl
      simp only [Act.put, List.setIfInBounds_toArray, List.set_cons_zero, List.set_cons_succ, List.getElem_toArray, List.getElem_cons_zero, List.getElem_cons_succ]
      refine wpAnyH_take (i := 4) (v := ?vo4) rfl (by kernel_rfl) (by kernel_rfl) (by kernel_rfl) (fun _ _ _ h => h) (Or.inl ⟨by rfl, ?hyo4⟩) (by assumption) ?resto4
      case hyo4 =>
        intro w hSw
        try dsimp only at hSw
        go_simp
        try with_reducible rfl
      simp only [Act.put, List.setIfInBounds_toArray, List.set_cons_zero, List.set_cons_succ, List.getElem_toArray, List.getElem_cons_zero, List.getElem_cons_succ]
      refine wpAnyH_take (i := 5) (v := ?vo5) rfl (by kernel_rfl) (by kernel_rfl) (by kernel_rfl) (fun _ _ _ h => h) (Or.inl ⟨by rfl, ?hyo5⟩) (by assumption) ?resto5
      case hyo5 =>
        intro w hSw
        try dsimp only at hSw
        go_simp
        try with_reducible rfl
      simp only [Act.put, List.setIfInBounds_toArray, List.set_cons_zero, List.set_cons_succ, List.getElem_toArray, List.getElem_cons_zero, List.getElem_cons_succ]
      refine wpAnyH_take (i := 6) (v := ?vo6) rfl (by kernel_rfl) (by kernel_rfl) (by kernel_rfl) (fun _ _ _ h => h) (Or.inl ⟨by rfl, ?hyo6⟩) (by assumption) ?resto6
      case hyo6 =>
        intro w hSw
        try dsimp only at hSw
        go_simp
        try with_reducible rfl
      simp only [Act.put, List.setIfInBounds_toArray, List.set_cons_zero, List.set_cons_succ, List.getElem_toArray, List.getElem_cons_zero, List.getElem_cons_succ]
      refine wpAnyH_take (i := 7) (v := ?vo7) rfl (by kernel_rfl) (by kernel_rfl) (by kernel_rfl) (fun _ _ _ h => h) (Or.inl ⟨by rfl, ?hyo7⟩) (by assumption) ?resto7
      case hyo7 =>
        intro w hSw
        try dsimp only at hSw
        go_simp
        try with_reducible rfl
      simp only [Act.put, List.setIfInBounds_toArray, List.set_cons_zero, List.set_cons_succ, List.getElem_toArray, List.getElem_cons_zero, List.getElem_cons_succ]
      refine wpAnyH_take (i := 8) (v := ?vo8) rfl (by kernel_rfl) (by kernel_rfl) (by kernel_rfl) (fun _ _ _ h => h) (Or.inl ⟨by rfl, ?hyo8⟩) (by assumption) ?resto8
      case hyo8 =>
        intro w hSw
        try dsimp only at hSw
        go_simp
        try with_reducible rfl
      simp only [Act.put, List.setIfInBounds_toArray, List.set_cons_zero, List.set_cons_succ, List.getElem_toArray, List.getElem_cons_zero, List.getElem_cons_succ]
      refine wpAnyH_drop (fuel := 2) [9, 10, 11, 12, 13, 14, 15, 16, 17, 18, 19, 20, 21, 22, 23, 24, 25, 26, 27, 28, 29, 30, 31, 32] [108, 109, 110, 111, 112, 113, 114, 115, 116, 117, 118, 119, 120, 121, 122, 123, 124, 125, 126, 127, 128, 129, 130, 131] #[true, true, true, true, true, true, true, true, true, true, true, true, true, true, true, true, true, true, true, true, true, true, true, true, true, true, true, true, true, true, true, true, true, false, false] (by kernel_rfl) (fun d _ _ _ _ h => by cases d <;> exact h) (by assumption) (by kernel_rfl) (by kernel_rfl) (by kernel_rfl) ?_
      simp only [putsU, Act.put, List.setIfInBounds_toArray, List.set_cons_zero, List.set_cons_succ]
      refine wpAnyH_take (i := 33) (v := ?vo33) rfl (by kernel_rfl) (by kernel_rfl) (by kernel_rfl) (fun _ _ _ h => h) (Or.inl ⟨by rfl, ?hyo33⟩) (by assumption) ?resto33
      case hyo33 =>
        intro w hSw
        try dsimp only at hSw
        go_simp
        try with_reducible rfl
      simp only [Act.put, List.setIfInBounds_toArray, List.set_cons_zero, List.set_cons_succ, List.getElem_toArray, List.getElem_cons_zero, List.getElem_cons_succ]
      refine wpAnyH_take (i := 34) (v := ?vo34) rfl (by kernel_rfl) (by kernel_rfl) (by kernel_rfl) (fun _ _ _ h => h) (Or.inl ⟨by rfl, ?hyo34⟩) (by assumption) ?resto34
      case hyo34 =>
        intro w hSw
        try dsimp only at hSw
        go_simp
        try with_reducible rfl
      simp only [Act.put, List.setIfInBounds_toArray, List.set_cons_zero, List.set_cons_succ, List.getElem_toArray, List.getElem_cons_zero, List.getElem_cons_succ]
      refine wpAnyH_done (by kernel_rfl) ?_ _
      go_wp2
      go_roundw
      case rel => exact ⟨k + 1, by omega, by go_num, HV9.out.drew, HV9'.out.drew⟩
      case measure => simp [intOf]; omega
    have hj0 : (0 : Int) ≤ j := by omega
    have ht0 : (0 : Int) ≤ t := by omega
    have hj1 : (j : Int) < Y.length := by omega
    have ht1 : (t : Int) < Z.length := by omega
    obtain ⟨b1, o1, rfl, hb1, hc1⟩ := HY6.out (by omega)
    obtain ⟨c10, c11, c12, c13⟩ := hc1 j hj
    rw [← kc HV9'.out _ _ hb1] at c10 c11 c12 c13
    clear hc1
    obtain ⟨b2, o2, rfl, hb2, hc2⟩ := HZ6.out (by omega)
    obtain ⟨c20, c21, c22, c23⟩ := hc2 t ht
    rw [← kc HV9'.out _ _ hb2] at c20 c21 c22 c23
    clear hc2
    injection hcv with hcv
    injection hcv with hcv hcs
    rw [hcv] at c12
    rw [hcs] at c13
    generalize (Z.getD t .z).w = ww at c12 c22
    generalize (Z.getD t .z).s = ss at c13 c23
    clear hcv hcs c10 c11 c20 c21
    go_wp2_with fail
    go_region_held3 (fun w' => w'.cell? ⟨b1, o1 + j * 4 + 2, none⟩ = some (.bool ww) ∧ w'.cell? ⟨b1, o1 + j * 4 + 3, none⟩ = some (.bool ss) ∧ w'.cell? ⟨b2, o2 + t * 4 + 2, none⟩ = some (.bool ww) ∧ w'.cell? ⟨b2, o2 + t * 4 + 3, none⟩ = some (.bool ss))
      (first | exact ⟨c12, c13, c22, c23⟩)
      (first | fail)
    go_wp2
    go_roundw
    case rel => exact ⟨k + 1, by omega, by go_num, HV9.out.drew, HV9'.out.drew⟩
    case measure => simp [intOf]; omega

end
end Go.Proofs.Ytphanhlaojpbiaa
