/-
  The walk of FnAreasAdd on drawn arguments.
-/
import Derived.Test.YtphanhlaojpbiaaADOk
import Derived.Test.YtphanhlaojpbiaaReg
import Derived.Deep.RegionHeld3
namespace Go.Proofs.Ytphanhlaojpbiaa
open Go.RowKit

section
variable {A : Option Addr} {n c : Nat} {w : World}
set_option maxHeartbeats 4000000 in
theorem dAreasAdd_walk (I : ImplA) (hc : Code w A n) (hcap : n ≤ c) (hcap2 : c ≤ maxLen) :
    Calls Try.prog 6 #[.slice A n c] w fun e w' => e = .returned (.bool true) ∧ Below w.heap.size w w' := by
  have hn := hc.1
  unfold maxLen at hn
  by_cases hbig : (1048576 : Int) < n
  · go_enter Try.func6, Try.ntmps6
    go_wp2_with fail
    go_ret
    exact ⟨rfl, Below.refl _ _⟩
  have HC0 := Lib.hid hc
  have HI := Lib.hid I
  have HW0 := Lib.hid (Below.refl w.heap.size w)
  clear hc I
  go_enter Try.func6, Try.ntmps6
  go_wp2_with fail
  refine (drawAreasAdd_any HC0.out hcap hcap2).mono ?_
  rintro e w1 ⟨v, l, a, rfl, f0, f1, m0, m1, ho, ⟨hl7, htl⟩, hb1⟩
  obtain ⟨C, c1, rfl, hr⟩ := ho.row
  have HR1 := Lib.hid hr
  have HM := Lib.hid (show l.length ≤ maxLen by unfold maxLen; omega)
  have HMM := Lib.hid (show l.length ≤ 9223372036854775807 by omega)
  have HTL := Lib.hid htl
  clear ho hr htl
  have HW1 := Lib.hid (HW0.out.trans (hb1.mono HW0.out.size))
  clear hb1
  have HW2 := Lib.hid (show Below w.heap.size w (w1.alloc (.cells #[.int .i64 a.f, .int .i64 a.m, .bool a.w, .bool a.s] 24)) from HW1.out.trans (((Below.refl w1.heap.size w1).alloc (Nat.le_refl _) _).mono HW1.out.size))
  have HR2 := Lib.hid (HR1.out.below (show Below w1.heap.size w1 (w1.alloc (.cells #[.int .i64 a.f, .int .i64 a.m, .bool a.w, .bool a.s] 24)) from (Below.refl w1.heap.size w1).alloc (Nat.le_refl _) _))
  have X2 := Lib.hid (Box.new w1 #[.int .i64 a.f, .int .i64 a.m, .bool a.w, .bool a.s] 24)
  go_wp2_with fail
  refine (HI.out.add a HR2.out rfl HM.out HTL.out (by omega)).mono ?_
  rintro e w3 ⟨CHX, kHX, dHX, rfl, hm, hb3⟩
  have hkHX := hm.1
  subst hkHX
  have HX3 := Lib.hid hm.2.2.1
  have LHX := Lib.hid (show (addR l a).length ≤ maxLen by have := hm.2.1; unfold maxLen; omega)
  have MHX := Lib.hid (show (addR l a).length ≤ 9223372036854775807 by have := hm.2.1; omega)
  clear hm
  have HW3 := Lib.hid (HW2.out.trans (hb3.mono HW2.out.size))
  have HR3 := Lib.hid (HR2.out.below hb3)
  have X3 := Lib.hid (X2.out.below hb3 X2.out.lt)
  clear hb3
  have x0 := X3.out.cell 0
  have x1 := X3.out.cell 1
  have x2 := X3.out.cell 2
  have x3 := X3.out.cell 3
  have xl := X3.out.lt
  simp at x0 x1 x2 x3
  go_wp2_with fail
  refine (addS_any a HR3.out rfl HM.out).mono ?_
  rintro e w4 ⟨vHY, rfl, ho, hb4⟩
  obtain ⟨CHY, dHY, rfl, hrHY⟩ := ho.row
  have HY4 := Lib.hid hrHY
  clear ho hrHY
  clear x0 x1 x2 x3 xl
  have HW4 := Lib.hid (HW3.out.trans (hb4.mono HW3.out.size))
  have HR4 := Lib.hid (HR3.out.below hb4)
  have HX4 := Lib.hid (HX3.out.below hb4)
  have X4 := Lib.hid (X3.out.below hb4 X3.out.lt)
  clear hb4
  have x0 := X4.out.cell 0
  have x1 := X4.out.cell 1
  have x2 := X4.out.cell 2
  have x3 := X4.out.cell 3
  have xl := X4.out.lt
  simp at x0 x1 x2 x3
  go_wp2_with fail
  refine (qdAreas_any HX4.out HY4.out MHX.out).mono ?_
  rintro e w5 ⟨rfl, hb5⟩
  clear x0 x1 x2 x3 xl
  have HW5 := Lib.hid (HW4.out.trans (hb5.mono HW4.out.size))
  have HR5 := Lib.hid (HR4.out.below hb5)
  have HX5 := Lib.hid (HX4.out.below hb5)
  have HY5 := Lib.hid (HY4.out.below hb5)
  have X5 := Lib.hid (X4.out.below hb5 X4.out.lt)
  clear hb5
  have x0 := X5.out.cell 0
  have x1 := X5.out.cell 1
  have x2 := X5.out.cell 2
  have x3 := X5.out.cell 3
  have xl := X5.out.lt
  simp at x0 x1 x2 x3
  by_cases hB : addB l a = true
  rotate_left
  · rw [Bool.not_eq_true] at hB
    go_wp2_with fail
    go_ret
    exact ⟨rfl, HW5.out⟩
  have hla := law_add hB
  have HLA := Lib.hid hla
  clear hla
  go_wp2_with fail
  refine (HI.out.cut a.f a.m HX5.out rfl LHX.out (topL_addR _ _) (by omega)).mono ?_
  rintro e w6 ⟨CHZ, kHZ, dHZ, rfl, hm, hb6⟩
  have hkHZ := hm.1
  subst hkHZ
  have HZ6 := Lib.hid hm.2.2.1
  have LHZ := Lib.hid (show (cutR (addR l a) a.f a.m).length ≤ maxLen by have := hm.2.1; unfold maxLen; omega)
  have MHZ := Lib.hid (show (cutR (addR l a) a.f a.m).length ≤ 9223372036854775807 by have := hm.2.1; omega)
  clear hm
  clear x0 x1 x2 x3 xl
  have HW6 := Lib.hid (HW5.out.trans (hb6.mono HW5.out.size))
  have HR6 := Lib.hid (HR5.out.below hb6)
  have HX6 := Lib.hid (HX5.out.below hb6)
  have X6 := Lib.hid (X5.out.below hb6 X5.out.lt)
  clear hb6
  have x0 := X6.out.cell 0
  have x1 := X6.out.cell 1
  have x2 := X6.out.cell 2
  have x3 := X6.out.cell 3
  have xl := X6.out.lt
  simp at x0 x1 x2 x3
  rw [HLA.out.2.2.1]
  have HZZ := Lib.hid HLA.out.2.2.2
  have hZ := HZ6.out
  rw [HZZ.out] at hZ ⊢
  have HQ6 := Lib.hid hZ
  clear hZ
  have hpl := (ok_pages l).2
  have hpm : -1 ≤ pagesV l := by
    rw [pages_sum]
    split
    · rename_i hok
      have := sumM_le (okL_iff.1 hok).1 (by omega)
      omega
    · omega
  have hws : IntKind.i64.wrap (pagesV l + a.m) = pagesV l + a.m := IntWalk.i64_in _ (by omega)
  clear x0 x1 x2 x3 xl
  have HWd := Lib.hid HW6.out.drew
  have HRd := Lib.hid (HR6.out.below (Below.refl _ _).drew)
  have HXd := Lib.hid (HX6.out.below (Below.refl _ _).drew)
  have HQd := Lib.hid (HQ6.out.below (Below.refl _ _).drew)
  have Xd := Lib.hid X6.out.drewn
  go_wp2_with fail
  go_region_held3 (fun w' => w'.cell? ⟨w1.heap.size, 1, none⟩ = some (.int .i64 a.m))
    (first | exact r1 | exact Xd.out.cell 1)
    (first
      | (go_at_call 32
         refine (qdAreas_any HQ9.out HR9.out HMM.out).mono ?_
         rintro e w10 ⟨rfl, hb10⟩
         clear r1
         have HW10 := Lib.hid (HW9.out.trans (hb10.mono HW9.out.size))
         have HR10 := Lib.hid (HR9.out.below hb10)
         have HX10 := Lib.hid (HX9.out.below hb10)
         have HQ10 := Lib.hid (HQ9.out.below hb10)
         have X10 := Lib.hid (X9.out.below hb10 X9.out.lt)
         have r1 : w10.cell? ⟨w1.heap.size, 1, none⟩ = some (.int .i64 a.m) := X10.out.cell 1
         clear hb10)
      | (go_at_call 25
         refine (HI.out.pages HR8.out rfl HM.out HTL.out).mono ?_
         rintro e w9 ⟨rfl, hb9⟩
         clear r1
         have HW9 := Lib.hid (HW8.out.trans (hb9.mono HW8.out.size))
         have HR9 := Lib.hid (HR8.out.below hb9)
         have HX9 := Lib.hid (HX8.out.below hb9)
         have HQ9 := Lib.hid (HQ8.out.below hb9)
         have X9 := Lib.hid (X8.out.below hb9 X8.out.lt)
         have r1 : w9.cell? ⟨w1.heap.size, 1, none⟩ = some (.int .i64 a.m) := X9.out.cell 1
         clear hb9)
      | (go_at_call 25
         refine (HI.out.pages HX7.out rfl LHX.out (topL_addR _ _)).mono ?_
         rintro e w8 ⟨rfl, hb8⟩
         clear r1
         rw [HLA.out.2.1]
         have HW8 := Lib.hid (HW7.out.trans (hb8.mono HW7.out.size))
         have HR8 := Lib.hid (HR7.out.below hb8)
         have HX8 := Lib.hid (HX7.out.below hb8)
         have HQ8 := Lib.hid (HQ7.out.below hb8)
         have X8 := Lib.hid (X7.out.below hb8 X7.out.lt)
         have r1 : w8.cell? ⟨w1.heap.size, 1, none⟩ = some (.int .i64 a.m) := X8.out.cell 1
         clear hb8)
      | (go_at_call 22
         refine (HI.out.aoks HXd.out rfl LHX.out (topL_addR _ _)).mono ?_
         rintro e w7 ⟨rfl, hb7⟩
         rw [HLA.out.1]
         have HW7 := Lib.hid (HWd.out.trans (hb7.mono HWd.out.size))
         have HR7 := Lib.hid (HRd.out.below hb7)
         have HX7 := Lib.hid (HXd.out.below hb7)
         have HQ7 := Lib.hid (HQd.out.below hb7)
         have X7 := Lib.hid (Xd.out.below hb7 Xd.out.lt)
         have r1 : w7.cell? ⟨w1.heap.size, 1, none⟩ = some (.int .i64 a.m) := X7.out.cell 1
         clear hb7))
  clear r1
  go_wp2_with fail
  go_ret
  exact ⟨rfl, HW10.out⟩

end
end Go.Proofs.Ytphanhlaojpbiaa
