/-
  The walk of FnAreasOrder on drawn arguments.
-/
import Derived.Test.YtphanhlaojpbiaaADOk
import Derived.Test.YtphanhlaojpbiaaReg
namespace Go.Proofs.Ytphanhlaojpbiaa
open Go.RowKit

section
variable {A : Option Addr} {n c : Nat} {w : World}
set_option maxHeartbeats 4000000 in
theorem dAreasOrder_walk {A' : Option Addr} {n' c' : Nat} (I : ImplA) (hc : Code w A n) (hcap : n ≤ c) (hcap2 : c ≤ maxLen) (hc' : Code w A' n') (hcap' : n' ≤ c') (hcap2' : c' ≤ maxLen) :
    Calls Try.prog 10 #[.slice A n c, .slice A' n' c'] w fun e w' => e = .returned (.bool true) ∧ Below w.heap.size w w' := by
  have hn := hc.1
  unfold maxLen at hn
  by_cases hbig : (1048576 : Int) < n
  · go_enter Try.func10, Try.ntmps10
    go_wp2_with fail
    go_ret
    exact ⟨rfl, Below.refl _ _⟩
  have hn1 := hc'.1
  unfold maxLen at hn1
  by_cases hbig' : (1048576 : Int) < n'
  · go_enter Try.func10, Try.ntmps10
    go_wp2_with fail
    go_ret
    exact ⟨rfl, Below.refl _ _⟩
  have HC0 := Lib.hid hc
  have HI := Lib.hid I
  have HW0 := Lib.hid (Below.refl w.heap.size w)
  clear hc I
  have HD0 := Lib.hid hc'
  clear hc'
  go_enter Try.func10, Try.ntmps10
  go_wp2_with fail
  refine (drawAreasCut_any HC0.out hcap hcap2).mono ?_
  rintro e w1 ⟨v, l, p, m, rfl, p0, p1, m0, m1, ho, ⟨hl7, htl⟩, hb1⟩
  obtain ⟨C, c1, rfl, hr⟩ := ho.row
  have HR1 := Lib.hid hr
  have HM := Lib.hid (show l.length ≤ maxLen by unfold maxLen; omega)
  have HMM := Lib.hid (show l.length ≤ 9223372036854775807 by omega)
  have HTL := Lib.hid htl
  clear ho hr htl
  have HW1 := Lib.hid (HW0.out.trans (hb1.mono HW0.out.size))
  have HD1 := Lib.hid (HD0.out.below hb1)
  clear hb1
  go_wp2_with fail
  refine (drawAreasCut_any HD1.out hcap' hcap2').mono ?_
  rintro e w2 ⟨v2, l2, p2, m2, rfl, q0, q1, n0, n1, -, -, hb2⟩
  have HW2 := Lib.hid (HW1.out.trans (hb2.mono HW1.out.size))
  have HR2 := Lib.hid (HR1.out.below hb2)
  clear hb2
  go_wp2_with fail
  refine (HI.out.cut p m HR2.out rfl HM.out HTL.out (by omega)).mono ?_
  rintro e w3 ⟨CHX, kHX, dHX, rfl, hm, hb3⟩
  have hkHX := hm.1
  subst hkHX
  have HX3 := Lib.hid hm.2.2.1
  have LHX := Lib.hid (show (cutR l p m).length ≤ maxLen by have := hm.2.1; unfold maxLen; omega)
  have MHX := Lib.hid (show (cutR l p m).length ≤ 9223372036854775807 by have := hm.2.1; omega)
  clear hm
  have HW3 := Lib.hid (HW2.out.trans (hb3.mono HW2.out.size))
  have HR3 := Lib.hid (HR2.out.below hb3)
  clear hb3
  go_wp2_with fail
  refine (cutS_any p m HR3.out rfl HM.out).mono ?_
  rintro e w4 ⟨vHY, rfl, ho, hb4⟩
  obtain ⟨CHY, dHY, rfl, hrHY⟩ := ho.row
  have HY4 := Lib.hid hrHY
  clear ho hrHY
  have HW4 := Lib.hid (HW3.out.trans (hb4.mono HW3.out.size))
  have HR4 := Lib.hid (HR3.out.below hb4)
  have HX4 := Lib.hid (HX3.out.below hb4)
  clear hb4
  go_wp2_with fail
  refine (qdAreas_any HX4.out HY4.out MHX.out).mono ?_
  rintro e w5 ⟨rfl, hb5⟩
  have HW5 := Lib.hid (HW4.out.trans (hb5.mono HW4.out.size))
  have HR5 := Lib.hid (HR4.out.below hb5)
  have HX5 := Lib.hid (HX4.out.below hb5)
  have HY5 := Lib.hid (HY4.out.below hb5)
  clear hb5
  by_cases hB : cutB l p m = true
  rotate_left
  · skip
    rw [Bool.not_eq_true] at hB
    go_wp2_with fail
    refine (qdAreas_any HX5.out HY5.out MHX.out).mono ?_
    rintro e w6 ⟨rfl, hb6⟩
    have HW6 := Lib.hid (HW5.out.trans (hb6.mono HW5.out.size))
    have HR6 := Lib.hid (HR5.out.below hb6)
    have HX6 := Lib.hid (HX5.out.below hb6)
    have HY6 := Lib.hid (HY5.out.below hb6)
    clear hb6
    go_wp2_with fail
    go_ret
    exact ⟨rfl, HW6.out⟩
  go_wp2_with fail
  refine (HI.out.cut p2 m2 HX5.out rfl LHX.out (topL_cutR _ _ _) (by omega)).mono ?_
  rintro e w6 ⟨CHY1, kHY1, dHY1, rfl, hm, hb6⟩
  have hkHY1 := hm.1
  subst hkHY1
  have HY16 := Lib.hid hm.2.2.1
  have LHY1 := Lib.hid (show (cutR (cutR l p m) p2 m2).length ≤ maxLen by have := hm.2.1; unfold maxLen; omega)
  have MHY1 := Lib.hid (show (cutR (cutR l p m) p2 m2).length ≤ 9223372036854775807 by have := hm.2.1; omega)
  clear hm
  have HW6 := Lib.hid (HW5.out.trans (hb6.mono HW5.out.size))
  have HR6 := Lib.hid (HR5.out.below hb6)
  have HX6 := Lib.hid (HX5.out.below hb6)
  clear hb6
  go_wp2_with fail
  refine (HI.out.cut p2 m2 HR6.out rfl HM.out HTL.out (by omega)).mono ?_
  rintro e w7 ⟨CHU, kHU, dHU, rfl, hm, hb7⟩
  have hkHU := hm.1
  subst hkHU
  have HU7 := Lib.hid hm.2.2.1
  have LHU := Lib.hid (show (cutR l p2 m2).length ≤ maxLen by have := hm.2.1; unfold maxLen; omega)
  have MHU := Lib.hid (show (cutR l p2 m2).length ≤ 9223372036854775807 by have := hm.2.1; omega)
  clear hm
  have HW7 := Lib.hid (HW6.out.trans (hb7.mono HW6.out.size))
  have HR7 := Lib.hid (HR6.out.below hb7)
  have HX7 := Lib.hid (HX6.out.below hb7)
  have HY17 := Lib.hid (HY16.out.below hb7)
  clear hb7
  go_wp2_with fail
  refine (HI.out.cut p m HU7.out rfl LHU.out (topL_cutR _ _ _) (by omega)).mono ?_
  rintro e w8 ⟨CHV, kHV, dHV, rfl, hm, hb8⟩
  have hkHV := hm.1
  subst hkHV
  have HV8 := Lib.hid hm.2.2.1
  have LHV := Lib.hid (show (cutR (cutR l p2 m2) p m).length ≤ maxLen by have := hm.2.1; unfold maxLen; omega)
  have MHV := Lib.hid (show (cutR (cutR l p2 m2) p m).length ≤ 9223372036854775807 by have := hm.2.1; omega)
  clear hm
  have HW8 := Lib.hid (HW7.out.trans (hb8.mono HW7.out.size))
  have HR8 := Lib.hid (HR7.out.below hb8)
  have HX8 := Lib.hid (HX7.out.below hb8)
  have HY18 := Lib.hid (HY17.out.below hb8)
  have HU8 := Lib.hid (HU7.out.below hb8)
  clear hb8
  by_cases hB0 : cutB (cutR l p m) p2 m2 = true
  rotate_left
  · rw [Bool.not_eq_true] at hB0
    go_wp2_with fail
    go_ret
    exact ⟨rfl, HW8.out⟩
  by_cases hB1 : cutB l p2 m2 = true
  rotate_left
  · rw [Bool.not_eq_true] at hB1
    go_wp2_with fail
    go_ret
    exact ⟨rfl, HW8.out⟩
  by_cases hB2 : cutB (cutR l p2 m2) p m = true
  rotate_left
  · rw [Bool.not_eq_true] at hB2
    go_wp2_with fail
    go_ret
    exact ⟨rfl, HW8.out⟩
  have hor := law_order hB hB0 hB1 hB2
  have HVV := Lib.hid (show RowA w8 CHV (cutR (cutR l p m) p2 m2).length (cutR (cutR l p m) p2 m2) by rw [hor]; exact HV8.out)
  rw [← hor]
  clear hor
  go_wp2_with fail
  refine (qdAreas_any HY18.out HVV.out MHY1.out).mono ?_
  rintro e w9 ⟨rfl, hb9⟩
  have HW9 := Lib.hid (HW8.out.trans (hb9.mono HW8.out.size))
  have HR9 := Lib.hid (HR8.out.below hb9)
  have HX9 := Lib.hid (HX8.out.below hb9)
  have HY19 := Lib.hid (HY18.out.below hb9)
  have HU9 := Lib.hid (HU8.out.below hb9)
  have HV9 := Lib.hid (HV8.out.below hb9)
  clear hb9
  go_wp2_with fail
  go_ret
  exact ⟨rfl, HW9.out⟩

end
end Go.Proofs.Ytphanhlaojpbiaa
