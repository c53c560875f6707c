/-
  qdSigs compares.
-/
import Derived.Test.YtncinocpdeokgaaTsSigs
import Derived.Test.YtncinocpdeokgaaTqBool
import Derived.Test.YtncinocpdeokgaaTqInt
namespace Go.Proofs.Ytncinocpdeokgaa
open Go.RowKit
section
variable {w : World} {hi hi2 : Nat} {D : List Bool × List Bool × List Int} {x0 x1 x2 y0 y1 y2 : Value}
set_option maxHeartbeats 1000000 in
theorem qdSigs_t (h : tySigs.R w hi [x0, x1, x2] D) (h2 : tySigs.R w hi2 [y0, y1, y2] D) :
    Calls Try.prog 24 #[.agg #[x0, x1, x2], .agg #[y0, y1, y2]] w fun e w' => e = .returned (.bool true) ∧ Below w.heap.size w w' := by
  obtain ⟨A0, n0, c0, A1, n1, c1, A2, n2, c2, hcs, ⟨l0, m0, r0⟩, ⟨l1, m1, r1⟩, ⟨l2, m2, r2⟩⟩ := tySigs_R h
  simp only [List.cons.injEq, and_true] at hcs
  obtain ⟨rfl, rfl, rfl⟩ := hcs
  have q0 : n0 ≤ 9223372036854775807 := by unfold maxLen at m0; omega
  have q1 : n1 ≤ 9223372036854775807 := by unfold maxLen at m1; omega
  have q2 : n2 ≤ 9223372036854775807 := by unfold maxLen at m2; omega
  obtain ⟨B0, p0, d0, B1, p1, d1, B2, p2, d2, hcs2, ⟨l0b, m0b, r0b⟩, ⟨l1b, m1b, r1b⟩, ⟨l2b, m2b, r2b⟩⟩ := tySigs_R h2
  simp only [List.cons.injEq, and_true] at hcs2
  obtain ⟨rfl, rfl, rfl⟩ := hcs2
  obtain rfl : n0 = p0 := l0.symm.trans l0b
  obtain rfl : n1 = p1 := l1.symm.trans l1b
  obtain rfl : n2 = p2 := l2.symm.trans l2b
  have HR0 := Lib.hid r0
  have HS0 := Lib.hid r0b
  have HR1 := Lib.hid r1
  have HS1 := Lib.hid r1b
  have HR2 := Lib.hid r2
  have HS2 := Lib.hid r2b
  clear h h2 m0 m0b l0 l0b r0 r0b m1 m1b l1 l1b r1 r1b m2 m2b l2 l2b r2 r2b
  generalize D.1 = L0 at HR0 HS0
  generalize D.2.1 = L1 at HR1 HS1
  generalize D.2.2 = L2 at HR2 HS2
  have X0 := Lib.hid ((Box.new w #[.slice A0 n0 c0, .slice A1 n1 c1, .slice A2 n2 c2] 26).alloc (.cells #[.slice B0 n0 d0, .slice B1 n1 d1, .slice B2 n2 d2] 26))
  have Y0 := Lib.hid (Box.new (w.alloc (.cells #[.slice A0 n0 c0, .slice A1 n1 c1, .slice A2 n2 c2] 26)) #[.slice B0 n0 d0, .slice B1 n1 d1, .slice B2 n2 d2] 26)
  simp only [World.size_alloc] at Y0
  have HB0 := Lib.hid (show Below w.heap.size w ((w.alloc (.cells #[.slice A0 n0 c0, .slice A1 n1 c1, .slice A2 n2 c2] 26)).alloc (.cells #[.slice B0 n0 d0, .slice B1 n1 d1, .slice B2 n2 d2] 26)) from ((Below.refl _ _).alloc (Nat.le_refl _) _).alloc (by simp only [World.size_alloc]; omega) _)
  go_enter Try.func24, Try.ntmps24
  have a0 := X0.out.cell 0
  have b0 := Y0.out.cell 0
  have a1 := X0.out.cell 1
  have b1 := Y0.out.cell 1
  have a2 := X0.out.cell 2
  have b2 := Y0.out.cell 2
  have la := X0.out.lt
  have lb := Y0.out.lt
  simp at a0 b0 a1 b1 a2 b2
  go_wp2_with fail
  refine (qdBool_S (HR0.out.wb HB0.out) (HS0.out.wb HB0.out) q0).mono ?_
  rintro e w1 ⟨rfl, hb1⟩
  have HB1 := Lib.hid (HB0.out.trans (hb1.mono HB0.out.size))
  have X1 := Lib.hid (X0.out.below hb1 X0.out.lt)
  have Y1 := Lib.hid (Y0.out.below hb1 Y0.out.lt)
  clear hb1 la lb a0 b0 a1 b1 a2 b2
  have a0 := X1.out.cell 0
  have b0 := Y1.out.cell 0
  have a1 := X1.out.cell 1
  have b1 := Y1.out.cell 1
  have a2 := X1.out.cell 2
  have b2 := Y1.out.cell 2
  have la := X1.out.lt
  have lb := Y1.out.lt
  simp at a0 b0 a1 b1 a2 b2
  go_wp2_with fail
  refine (qdBool_S (HR1.out.wb HB1.out) (HS1.out.wb HB1.out) q1).mono ?_
  rintro e w2 ⟨rfl, hb2⟩
  have HB2 := Lib.hid (HB1.out.trans (hb2.mono HB1.out.size))
  have X2 := Lib.hid (X1.out.below hb2 X1.out.lt)
  have Y2 := Lib.hid (Y1.out.below hb2 Y1.out.lt)
  clear hb2 la lb a0 b0 a1 b1 a2 b2
  have a0 := X2.out.cell 0
  have b0 := Y2.out.cell 0
  have a1 := X2.out.cell 1
  have b1 := Y2.out.cell 1
  have a2 := X2.out.cell 2
  have b2 := Y2.out.cell 2
  have la := X2.out.lt
  have lb := Y2.out.lt
  simp at a0 b0 a1 b1 a2 b2
  go_wp2_with fail
  refine (qdInt_S (HR2.out.wb HB2.out) (HS2.out.wb HB2.out) q2).mono ?_
  rintro e w3 ⟨rfl, hb3⟩
  have HB3 := Lib.hid (HB2.out.trans (hb3.mono HB2.out.size))
  have X3 := Lib.hid (X2.out.below hb3 X2.out.lt)
  have Y3 := Lib.hid (Y2.out.below hb3 Y2.out.lt)
  clear hb3 la lb a0 b0 a1 b1 a2 b2
  have a0 := X3.out.cell 0
  have b0 := Y3.out.cell 0
  have a1 := X3.out.cell 1
  have b1 := Y3.out.cell 1
  have a2 := X3.out.cell 2
  have b2 := Y3.out.cell 2
  have la := X3.out.lt
  have lb := Y3.out.lt
  simp at a0 b0 a1 b1 a2 b2
  go_wp2_with fail
  go_ret
  exact ⟨rfl, HB3.out⟩
end
end Go.Proofs.Ytncinocpdeokgaa
