/-
  The walks of FnAreaOk and FnAreasOk on drawn arguments.
-/
import Derived.Test.YtphanhlaojpbiaaAImpl
import Derived.Test.YtphanhlaojpbiaaADrawY
import Derived.Test.YtphanhlaojpbiaaAPure3
namespace Go.Proofs.Ytphanhlaojpbiaa
open Go.RowKit

theorem Box.drewn {w : World} {b : Nat} {cs : Array Value} {t : TypeId} (h : Box w b cs t) : Box w.drew b cs t := h
theorem row_one (w : World) (a : Ar) (t : TypeId) : RowA (w.alloc (.cells #[.int .i64 a.f, .int .i64 a.m, .bool a.w, .bool a.s] t)) (some ⟨w.heap.size, 0, none⟩) 1 [a] := fun _ => by
  have X := Box.new w #[.int .i64 a.f, .int .i64 a.m, .bool a.w, .bool a.s] t
  refine ⟨_, 0, rfl, X.lt, fun k hk => ?_⟩
  obtain rfl : k = 0 := by omega
  exact ⟨X.cell 0, X.cell 1, X.cell 2, X.cell 3⟩

section
variable {A : Option Addr} {n c : Nat} {w : World}
set_option maxHeartbeats 1000000 in
theorem dAreasOk_walk (I : ImplA) (hc : Code w A n) (hcap : n ≤ c) (hcap2 : c ≤ maxLen) :
    Calls Try.prog 4 #[.slice A n c] w fun e w' => e = .returned (.bool true) ∧ Below w.heap.size w w' := by
  have hn := hc.1
  unfold maxLen at hn
  by_cases hbig : (1048576 : Int) < n
  · go_enter Try.func4, Try.ntmps4
    go_wp2_with fail
    go_ret
    exact ⟨rfl, Below.refl _ _⟩
  · have HCODE := Lib.hid hc
    have HI := Lib.hid I
    clear hc I
    go_enter Try.func4, Try.ntmps4
    go_wp2_with fail
    refine (drawAreasOk_any HCODE.out hcap hcap2).mono ?_
    rintro e w1 ⟨v, l, rfl, ho, ⟨hl7, htl⟩, hb1⟩
    have HTL := Lib.hid htl
    clear htl
    obtain ⟨C, c1, rfl, hr⟩ := ho.row
    have HW1 := Lib.hid hb1
    have HR1 := Lib.hid hr
    have hm : l.length ≤ maxLen := by unfold maxLen; omega
    have HM := Lib.hid hm
    clear hb1 hr ho hm
    go_wp2_with fail
    refine (HI.out.aoks HR1.out rfl HM.out HTL.out).mono ?_
    rintro e w2 ⟨rfl, hb2⟩
    have HW2 := Lib.hid (HW1.out.trans (hb2.mono HW1.out.size))
    have HR2 := Lib.hid (HR1.out.below hb2)
    clear hb2
    go_wp2_with fail
    refine (oksL_any HR2.out rfl HM.out).mono ?_
    rintro e w3 ⟨rfl, hb3⟩
    have HW3 := Lib.hid (HW2.out.trans (hb3.mono HW2.out.size))
    have HR3 := Lib.hid (HR2.out.below hb3)
    clear hb3
    go_wp2_with fail
    refine (HI.out.pages HR3.out rfl HM.out HTL.out).mono ?_
    rintro e w4 ⟨rfl, hb4⟩
    have HW4 := Lib.hid (HW3.out.trans (hb4.mono HW3.out.size))
    clear hb4
    have hf := ok_pages l
    have hf1 := hf.1
    have hf2 := hf.2
    clear hf
    go_wp2_with fail
    go_ret
    exact ⟨rfl, HW4.out⟩

set_option maxHeartbeats 1000000 in
theorem dAreaOk_walk (I : ImplA) (hc : Code w A n) (hcap : n ≤ c) (hcap2 : c ≤ maxLen) :
    Calls Try.prog 3 #[.slice A n c] w fun e w' => e = .returned (.bool true) ∧ Below w.heap.size w w' := by
  have hn := hc.1
  unfold maxLen at hn
  by_cases hbig : (1048576 : Int) < n
  · go_enter Try.func3, Try.ntmps3
    go_wp2_with fail
    go_ret
    exact ⟨rfl, Below.refl _ _⟩
  · have HCODE := Lib.hid hc
    have HI := Lib.hid I
    clear hc I
    go_enter Try.func3, Try.ntmps3
    go_wp2_with fail
    refine (drawAreaOk_any HCODE.out hcap hcap2).mono ?_
    rintro e w1 ⟨a, rfl, -, -, -, hm17, hb1⟩
    have HW0 := Lib.hid hb1
    clear hb1
    have HB1 := Lib.hid (show Below w1.heap.size w1 (w1.alloc (.cells #[.int .i64 a.f, .int .i64 a.m, .bool a.w, .bool a.s] 24)) from (Below.refl _ _).alloc (Nat.le_refl _) _)
    have X1 := Lib.hid (Box.new w1 #[.int .i64 a.f, .int .i64 a.m, .bool a.w, .bool a.s] 24)
    go_wp2_with fail
    refine (HI.out.aok a _ (by omega)).mono ?_
    rintro e w2 ⟨rfl, hb2⟩
    have HB2 := Lib.hid (HB1.out.trans (hb2.mono HB1.out.size))
    have X2 := Lib.hid (X1.out.below hb2 X1.out.lt)
    clear hb2
    have x0 := X2.out.cell 0
    have x1 := X2.out.cell 1
    have x2 := X2.out.cell 2
    have x3 := X2.out.cell 3
    have lx := X2.out.lt
    simp at x0 x1 x2 x3
    go_wp2_with fail
    refine (aoks_any a).mono ?_
    rintro e w3 ⟨rfl, hb3⟩
    have HB3 := Lib.hid (HB2.out.trans (hb3.mono HB2.out.size))
    have X3 := Lib.hid (X2.out.below hb3 X2.out.lt)
    clear hb3 x0 x1 x2 x3 lx
    have x0 := X3.out.cell 0
    have x1 := X3.out.cell 1
    have x2 := X3.out.cell 2
    have x3 := X3.out.cell 3
    have lx := X3.out.lt
    simp at x0 x1 x2 x3
    go_wp2_with fail
    refine (HI.out.aoks (l := [a]) ?_ rfl (by unfold maxLen; simp) (topL_app topL_nil (by omega))).mono ?_
    · exact row_one _ a _
    rintro e w4 ⟨rfl, hb4⟩
    have hf := okL_one a
    go_wp2_with fail
    go_ret
    exact ⟨rfl, HW0.out.trans ((HB3.out.trans (((Below.refl w3.heap.size w3).alloc (Nat.le_refl _) _).trans (hb4.mono (by simp)) |>.mono HB3.out.size)).mono HW0.out.size)⟩
end
end Go.Proofs.Ytphanhlaojpbiaa
