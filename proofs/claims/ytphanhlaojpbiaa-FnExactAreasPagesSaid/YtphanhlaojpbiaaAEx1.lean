/-
  The walks of the exact laws of AreaOk, AreasOk, AreasAt, AreasPages.
-/
import Derived.Test.YtphanhlaojpbiaaAImpl
import Derived.Deep.RegionHeld3
namespace Go.Proofs.Ytphanhlaojpbiaa
open Go.RowKit

section
variable {A : Option Addr} {n c : Nat} {w : World} {l : List Ar}
theorem exAreaOk_walk (I : ImplA) (a : Ar) (ha : a.m ≤ 9223372036854775807) : Calls Try.prog 12 #[.agg #[.int .i64 a.f, .int .i64 a.m, .bool a.w, .bool a.s]] w fun e w' => e = .returned (.bool true) ∧ Below w.heap.size w w' := by
  have HI := Lib.hid I
  clear I
  have HB0 := Lib.hid (show Below w.heap.size w (w.alloc (.cells #[.int .i64 a.f, .int .i64 a.m, .bool a.w, .bool a.s] 47)) from (Below.refl _ _).alloc (Nat.le_refl _) _)
  have X0 := Lib.hid (Box.new w #[.int .i64 a.f, .int .i64 a.m, .bool a.w, .bool a.s] 47)
  go_enter Try.func12, Try.ntmps12
  go_wp2_with fail
  refine (toArea_any a).mono ?_
  rintro e w1 ⟨rfl, hb1⟩
  have HB1 := Lib.hid (HB0.out.trans (hb1.mono HB0.out.size))
  have X1 := Lib.hid (X0.out.below hb1 X0.out.lt)
  clear hb1
  have x0 := X1.out.cell 0
  have x1 := X1.out.cell 1
  have x2 := X1.out.cell 2
  have x3 := X1.out.cell 3
  have lx := X1.out.lt
  simp at x0 x1 x2 x3
  go_wp2_with fail
  refine (aoks_any a).mono ?_
  rintro e w2 ⟨rfl, hb2⟩
  have HB2 := Lib.hid (HB1.out.trans (hb2.mono HB1.out.size))
  have X2 := Lib.hid (X1.out.below hb2 X1.out.lt)
  clear hb2 x0 x1 x2 x3 lx
  have x0 := X2.out.cell 0
  have x1 := X2.out.cell 1
  have x2 := X2.out.cell 2
  have x3 := X2.out.cell 3
  have lx := X2.out.lt
  simp at x0 x1 x2 x3
  go_wp2_with fail
  refine (toArea_any a).mono ?_
  rintro e w3 ⟨rfl, hb3⟩
  have HB3 := Lib.hid (HB2.out.trans (hb3.mono HB2.out.size))
  have X3 := Lib.hid (X2.out.below hb3 X2.out.lt)
  clear hb3 x0 x1 x2 x3 lx
  have x0 := X3.out.cell 0
  have x1 := X3.out.cell 1
  have x2 := X3.out.cell 2
  have x3 := X3.out.cell 3
  have lx := X3.out.lt
  simp at x0 x1 x2 x3
  go_wp2_with fail
  refine (HI.out.aok a _ ha).mono ?_
  rintro e w4 ⟨rfl, hb4⟩
  have HB4 := Lib.hid (HB3.out.trans (hb4.mono HB3.out.size))
  have X4 := Lib.hid (X3.out.below hb4 X3.out.lt)
  clear hb4 x0 x1 x2 x3 lx
  have x0 := X4.out.cell 0
  have x1 := X4.out.cell 1
  have x2 := X4.out.cell 2
  have x3 := X4.out.cell 3
  have lx := X4.out.lt
  simp at x0 x1 x2 x3
  go_wp2_with fail
  go_ret
  exact ⟨rfl, HB4.out⟩

theorem exAreasOk_walk (I : ImplA) (hr : RowA w A n l) (hl : l.length = n) (hn : n ≤ maxLen) (ht : TopL l) : Calls Try.prog 13 #[.slice A n c] w fun e w' => e = .returned (.bool true) ∧ Below w.heap.size w w' := by
  have HI := Lib.hid I
  have HR := Lib.hid hr
  have HL := Lib.hid hl
  have hn' : n ≤ 9223372036854775807 := by unfold maxLen at hn; omega
  have HN := Lib.hid hn
  have HTL := Lib.hid ht
  clear I hr hl hn ht
  go_enter Try.func13, Try.ntmps13
  go_wp2_with fail
  refine (szAreas_any 1048576 (by omega) (by omega) hn').mono ?_
  rintro e w1 ⟨z, rfl, hz, rfl⟩
  by_cases hz0 : z < 0
  · clear hz
    go_wp2
    go_ret
    exact ⟨rfl, Below.refl _ _⟩
  · obtain ⟨hz1, hz2⟩ := hz.2 (by omega)
    have hz4 : 0 ≤ z := by omega
    clear hz hz0
    go_wp2_with fail
    refine (toAreas_any HR.out HL.out (by omega)).mono ?_
    rintro e w2 ⟨b, rfl, ho, hb2⟩
    have HB2 := Lib.hid hb2
    have HO := Lib.hid ho
    clear ho hb2
    go_wp2_with fail
    refine (oksL_any HO.out.row'.1 HL.out HN.out).mono ?_
    rintro e w3 ⟨rfl, hb3⟩
    have HB3 := Lib.hid (HB2.out.trans (hb3.mono HB2.out.size))
    clear hb3
    go_wp2_with fail
    refine (toAreas_any (HR.out.below HB3.out) HL.out (by omega)).mono ?_
    rintro e w4 ⟨b2, rfl, ho4, hb4⟩
    have HB4 := Lib.hid (HB3.out.trans (hb4.mono HB3.out.size))
    have HO4 := Lib.hid ho4
    clear ho4 hb4
    go_wp2_with fail
    refine (HI.out.aoks HO4.out.row'.1 HL.out HN.out HTL.out).mono ?_
    rintro e w5 ⟨rfl, hb5⟩
    have HB5 := Lib.hid (HB4.out.trans (hb5.mono HB4.out.size))
    have HO5 := Lib.hid (HO4.out.below hb5)
    clear hb5
    go_wp2_with fail
    refine (toAreas_any (HR.out.below HB5.out) HL.out (by omega)).mono ?_
    rintro e w6 ⟨b3, rfl, ho6, hb6⟩
    have HB6 := Lib.hid (HB5.out.trans (hb6.mono HB5.out.size))
    have HO6 := Lib.hid (HO5.out.below hb6)
    have HP6 := Lib.hid ho6
    clear ho6 hb6
    go_wp2_with fail
    refine (eqAreas_any HO6.out.row'.1 HP6.out.row'.1 hn').mono ?_
    rintro e w7 ⟨rfl, hb7⟩
    have HB7 := Lib.hid (HB6.out.trans (hb7.mono HB6.out.size))
    clear hb7
    go_wp2_with fail
    go_ret
    exact ⟨rfl, HB7.out⟩

theorem exAreasAt_walk (I : ImplA) (p : Int) (hr : RowA w A n l) (hl : l.length = n) (hn : n ≤ maxLen) (ht : TopL l) : Calls Try.prog 14 #[.slice A n c, .int .i64 p] w fun e w' => e = .returned (.bool true) ∧ Below w.heap.size w w' := by
  have HI := Lib.hid I
  have HR := Lib.hid hr
  have HL := Lib.hid hl
  have hn' : n ≤ 9223372036854775807 := by unfold maxLen at hn; omega
  have HN := Lib.hid hn
  have HTL := Lib.hid ht
  clear I hr hl hn ht
  go_enter Try.func14, Try.ntmps14
  go_wp2_with fail
  refine (szAreas_any 1048576 (by omega) (by omega) hn').mono ?_
  rintro e w1 ⟨z, rfl, hz, rfl⟩
  by_cases hz0 : z < 0
  · clear hz
    go_wp2
    go_ret
    exact ⟨rfl, Below.refl _ _⟩
  · obtain ⟨hz1, hz2⟩ := hz.2 (by omega)
    have hz4 : 0 ≤ z := by omega
    clear hz hz0
    go_wp2_with fail
    refine (toAreas_any HR.out HL.out (by omega)).mono ?_
    rintro e w2 ⟨b, rfl, ho, hb2⟩
    have HB2 := Lib.hid hb2
    have HO := Lib.hid ho
    clear ho hb2
    go_wp2_with fail
    refine (atS_any p HO.out.row'.1 HL.out HN.out).mono ?_
    rintro e w3 ⟨rfl, hb3⟩
    have HB3 := Lib.hid (HB2.out.trans (hb3.mono HB2.out.size))
    clear hb3
    go_wp2_with fail
    refine (toAreas_any (HR.out.below HB3.out) HL.out (by omega)).mono ?_
    rintro e w4 ⟨b2, rfl, ho4, hb4⟩
    have HB4 := Lib.hid (HB3.out.trans (hb4.mono HB3.out.size))
    have HO4 := Lib.hid ho4
    clear ho4 hb4
    go_wp2_with fail
    refine (HI.out.at_ p HO4.out.row'.1 HL.out HN.out HTL.out).mono ?_
    rintro e w5 ⟨rfl, hb5⟩
    have HB5 := Lib.hid (HB4.out.trans (hb5.mono HB4.out.size))
    have HO5 := Lib.hid (HO4.out.below hb5)
    clear hb5
    go_wp2_with fail
    refine (toAreas_any (HR.out.below HB5.out) HL.out (by omega)).mono ?_
    rintro e w6 ⟨b3, rfl, ho6, hb6⟩
    have HB6 := Lib.hid (HB5.out.trans (hb6.mono HB5.out.size))
    have HO6 := Lib.hid (HO5.out.below hb6)
    have HP6 := Lib.hid ho6
    clear ho6 hb6
    go_wp2_with fail
    refine (eqAreas_any HO6.out.row'.1 HP6.out.row'.1 hn').mono ?_
    rintro e w7 ⟨rfl, hb7⟩
    have HB7 := Lib.hid (HB6.out.trans (hb7.mono HB6.out.size))
    clear hb7
    go_wp2_with fail
    go_ret
    exact ⟨rfl, HB7.out⟩

theorem exAreasPages_walk (I : ImplA) (hr : RowA w A n l) (hl : l.length = n) (hn : n ≤ maxLen) (ht : TopL l) : Calls Try.prog 18 #[.slice A n c] w fun e w' => e = .returned (.bool true) ∧ Below w.heap.size w w' := by
  have HI := Lib.hid I
  have HR := Lib.hid hr
  have HL := Lib.hid hl
  have hn' : n ≤ 9223372036854775807 := by unfold maxLen at hn; omega
  have HN := Lib.hid hn
  have HTL := Lib.hid ht
  clear I hr hl hn ht
  go_enter Try.func18, Try.ntmps18
  go_wp2_with fail
  refine (szAreas_any 1048576 (by omega) (by omega) hn').mono ?_
  rintro e w1 ⟨z, rfl, hz, rfl⟩
  by_cases hz0 : z < 0
  · clear hz
    go_wp2
    go_ret
    exact ⟨rfl, Below.refl _ _⟩
  · obtain ⟨hz1, hz2⟩ := hz.2 (by omega)
    have hz4 : 0 ≤ z := by omega
    clear hz hz0
    go_wp2_with fail
    refine (toAreas_any HR.out HL.out (by omega)).mono ?_
    rintro e w2 ⟨b, rfl, ho, hb2⟩
    have HB2 := Lib.hid hb2
    have HO := Lib.hid ho
    clear ho hb2
    go_wp2_with fail
    refine (pagesS_any HO.out.row'.1 HL.out HN.out).mono ?_
    rintro e w3 ⟨rfl, hb3⟩
    have HB3 := Lib.hid (HB2.out.trans (hb3.mono HB2.out.size))
    clear hb3
    go_wp2_with fail
    refine (toAreas_any (HR.out.below HB3.out) HL.out (by omega)).mono ?_
    rintro e w4 ⟨b2, rfl, ho4, hb4⟩
    have HB4 := Lib.hid (HB3.out.trans (hb4.mono HB3.out.size))
    have HO4 := Lib.hid ho4
    clear ho4 hb4
    go_wp2_with fail
    refine (HI.out.pages HO4.out.row'.1 HL.out HN.out HTL.out).mono ?_
    rintro e w5 ⟨rfl, hb5⟩
    have HB5 := Lib.hid (HB4.out.trans (hb5.mono HB4.out.size))
    have HO5 := Lib.hid (HO4.out.below hb5)
    clear hb5
    go_wp2_with fail
    refine (toAreas_any (HR.out.below HB5.out) HL.out (by omega)).mono ?_
    rintro e w6 ⟨b3, rfl, ho6, hb6⟩
    have HB6 := Lib.hid (HB5.out.trans (hb6.mono HB5.out.size))
    have HO6 := Lib.hid (HO5.out.below hb6)
    have HP6 := Lib.hid ho6
    clear ho6 hb6
    go_wp2_with fail
    refine (eqAreas_any HO6.out.row'.1 HP6.out.row'.1 hn').mono ?_
    rintro e w7 ⟨rfl, hb7⟩
    have HB7 := Lib.hid (HB6.out.trans (hb7.mono HB6.out.size))
    clear hb7
    go_wp2_with fail
    go_ret
    exact ⟨rfl, HB7.out⟩

end
end Go.Proofs.Ytphanhlaojpbiaa
