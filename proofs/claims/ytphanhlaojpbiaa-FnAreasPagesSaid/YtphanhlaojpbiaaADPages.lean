/-
  The walk of FnAreasPages on drawn arguments.
-/
import Derived.Test.YtphanhlaojpbiaaADOk
import Derived.Test.YtphanhlaojpbiaaReg
namespace Go.Proofs.Ytphanhlaojpbiaa
open Go.RowKit

section
variable {A : Option Addr} {n c : Nat} {w : World}
set_option maxHeartbeats 4000000 in
theorem dAreasPages_walk (I : ImplA) (hc : Code w A n) (hcap : n ≤ c) (hcap2 : c ≤ maxLen) :
    Calls Try.prog 9 #[.slice A n c] w fun e w' => e = .returned (.bool true) ∧ Below w.heap.size w w' := by
  have hn := hc.1
  unfold maxLen at hn
  by_cases hbig : (1048576 : Int) < n
  · go_enter Try.func9, Try.ntmps9
    go_wp2_with fail
    go_ret
    exact ⟨rfl, Below.refl _ _⟩
  have HC0 := Lib.hid hc
  have HI := Lib.hid I
  have HW0 := Lib.hid (Below.refl w.heap.size w)
  clear hc I
  go_enter Try.func9, Try.ntmps9
  go_wp2_with fail
  refine (drawAreasPages_any HC0.out hcap hcap2).mono ?_
  rintro e w1 ⟨v, l, rfl, ho, ⟨hl7, htl⟩, hb1⟩
  obtain ⟨C, c1, rfl, hr⟩ := ho.row
  have HR1 := Lib.hid hr
  have HM := Lib.hid (show l.length ≤ maxLen by unfold maxLen; omega)
  have HMM := Lib.hid (show l.length ≤ 9223372036854775807 by omega)
  have HTL := Lib.hid htl
  clear ho hr htl
  have HW1 := Lib.hid (HW0.out.trans (hb1.mono HW0.out.size))
  clear hb1
  go_wp2_with fail
  refine (HI.out.pages HR1.out rfl HM.out HTL.out).mono ?_
  rintro e w2 ⟨rfl, hb2⟩
  have HW2 := Lib.hid (HW1.out.trans (hb2.mono HW1.out.size))
  have HR2 := Lib.hid (HR1.out.below hb2)
  clear hb2
  go_wp2_with fail
  refine (pagesS_any HR2.out rfl HM.out).mono ?_
  rintro e w3 ⟨rfl, hb3⟩
  have HW3 := Lib.hid (HW2.out.trans (hb3.mono HW2.out.size))
  have HR3 := Lib.hid (HR2.out.below hb3)
  clear hb3
  by_cases hB : okL l = true
  rotate_left
  · have hv : pagesV l = -1 := by unfold pagesV; rw [if_neg hB]
    rw [hv]
    clear hB hv
    go_wp2_with fail
    go_ret
    exact ⟨rfl, HW3.out⟩
  rw [law_pages hB]
  have HB := Lib.hid hB
  have hc16 := cntTo_le l 16
  generalize hZe : cntTo l 16 = Z at hc16 ⊢
  have HZE := Lib.hid hZe
  clear hZe hB
  go_wp2_with fail
  go_loopw [7, 8] (fun s i wr => ∃ k : Nat, k ≤ 16 ∧ i = .int .i64 k ∧ s = .int .i64 (cntTo l k) ∧ Below w.heap.size w wr ∧ Below w3.heap.size w3 wr) (fun _ i _ => 16 - (intOf i).toNat)
  case atStart => exact ⟨0, Nat.zero_le _, rfl, rfl, HW3.out, Below.refl _ _⟩
  case round =>
    obtain ⟨k, hk, rfl, rfl, hb, hb'⟩ := hrel
    have HV := Lib.hid hb
    have HV' := Lib.hid hb'
    clear hb hb'
    by_cases hlt : k < 16
    · have hk1 : (k : Int) < 16 := by omega
      have hk2 : (0 : Int) ≤ k := by omega
      have hcl := cntTo_le l k
      have HX := Lib.hid (show cntTo l (k + 1) = cntTo l k + if (cov l k).isSome = true then 1 else 0 from rfl)
      generalize cntTo l k = z at hcl HX ⊢
      have hw1 : IntKind.i64.wrap (z + 1) = z + 1 := IntWalk.i64_in _ (by omega)
      go_wp2_with fail
      refine (HI.out.at_ k (HR3.out.below HV'.out) rfl HM.out HTL.out).mono ?_
      rintro e w9 ⟨rfl, hb9⟩
      have HV9 := Lib.hid (HV.out.trans (hb9.mono HV.out.size))
      have HV9' := Lib.hid (HV'.out.trans (hb9.mono HV'.out.size))
      clear hb9
      rcases at_cov HB.out (k : Int) with ⟨j, hj, ha, _, hcv⟩ | ⟨ha, hcv⟩
      · rw [ha]
        have hj0 : (0 : Int) ≤ j := by omega
        have HX2 := Lib.hid (show cntTo l (k + 1) = z + 1 by rw [HX.out, hcv]; rfl)
        clear ha hcv hj
        go_wp2
        go_roundw
        case rel => exact ⟨k + 1, by omega, by go_num, by rw [HX2.out], HV9.out, HV9'.out⟩
        case measure => simp [intOf]; omega
      · rw [ha]
        have HX2 := Lib.hid (show cntTo l (k + 1) = z by rw [HX.out, hcv]; simp)
        clear ha hcv
        go_wp2
        go_roundw
        case rel => exact ⟨k + 1, by omega, by go_num, by rw [HX2.out], HV9.out, HV9'.out⟩
        case measure => simp [intOf]; omega
    · obtain rfl : k = 16 := by omega
      rw [HZE.out]
      go_wp2
      go_ret
      exact ⟨rfl, HV.out⟩

end
end Go.Proofs.Ytphanhlaojpbiaa
