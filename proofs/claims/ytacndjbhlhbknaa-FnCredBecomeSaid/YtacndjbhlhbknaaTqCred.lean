/-
  qdCred compares.
-/
import Derived.Test.YtacndjbhlhbknaaTsCred
import Derived.Test.YtacndjbhlhbknaaTqInt
namespace Go.Proofs.Ytacndjbhlhbknaa
open Go.RowKit
section
variable {w : World} {hi hi2 : Nat} {D : Int × Int × List Int} {x0 x1 x2 y0 y1 y2 : Value}
set_option maxHeartbeats 1000000 in
theorem qdCred_t (h : tyCred.R w hi [x0, x1, x2] D) (h2 : tyCred.R w hi2 [y0, y1, y2] D) :
    Calls Try.prog 34 #[.agg #[x0, x1, x2], .agg #[y0, y1, y2]] w fun e w' => e = .returned (.bool true) ∧ Below w.heap.size w w' := by
  obtain ⟨A2, n2, c2, hcs, ⟨l2, m2, r2⟩⟩ := tyCred_R h
  simp only [List.cons.injEq, and_true] at hcs
  obtain ⟨rfl, rfl, rfl⟩ := hcs
  have q2 : n2 ≤ 9223372036854775807 := by unfold maxLen at m2; omega
  obtain ⟨B2, p2, d2, hcs2, ⟨l2b, m2b, r2b⟩⟩ := tyCred_R h2
  simp only [List.cons.injEq, and_true] at hcs2
  obtain ⟨rfl, rfl, rfl⟩ := hcs2
  obtain rfl : n2 = p2 := l2.symm.trans l2b
  have HR2 := Lib.hid r2
  have HS2 := Lib.hid r2b
  clear h h2 m2 m2b l2 l2b r2 r2b
  generalize D.1 = v0
  generalize D.2.1 = v1
  generalize D.2.2 = L2 at HR2 HS2
  have X0 := Lib.hid ((Box.new w #[.int .i64 v0, .int .i64 v1, .slice A2 n2 c2] 25).alloc (.cells #[.int .i64 v0, .int .i64 v1, .slice B2 n2 d2] 25))
  have Y0 := Lib.hid (Box.new (w.alloc (.cells #[.int .i64 v0, .int .i64 v1, .slice A2 n2 c2] 25)) #[.int .i64 v0, .int .i64 v1, .slice B2 n2 d2] 25)
  simp only [World.size_alloc] at Y0
  have HB0 := Lib.hid (show Below w.heap.size w ((w.alloc (.cells #[.int .i64 v0, .int .i64 v1, .slice A2 n2 c2] 25)).alloc (.cells #[.int .i64 v0, .int .i64 v1, .slice B2 n2 d2] 25)) from ((Below.refl _ _).alloc (Nat.le_refl _) _).alloc (by simp only [World.size_alloc]; omega) _)
  go_enter Try.func34, Try.ntmps34
  have a0 := X0.out.cell 0
  have b0 := Y0.out.cell 0
  have a1 := X0.out.cell 1
  have b1 := Y0.out.cell 1
  have a2 := X0.out.cell 2
  have b2 := Y0.out.cell 2
  have la := X0.out.lt
  have lb := Y0.out.lt
  simp at a0 b0 a1 b1 a2 b2
  go_wp2_with fail
  refine (qdInt_S (HR2.out.wb HB0.out) (HS2.out.wb HB0.out) q2).mono ?_
  rintro e w1 ⟨rfl, hb1⟩
  have HB1 := Lib.hid (HB0.out.trans (hb1.mono HB0.out.size))
  have X1 := Lib.hid (X0.out.below hb1 X0.out.lt)
  have Y1 := Lib.hid (Y0.out.below hb1 Y0.out.lt)
  clear hb1 la lb a0 b0 a1 b1 a2 b2
  have a0 := X1.out.cell 0
  have b0 := Y1.out.cell 0
  have a1 := X1.out.cell 1
  have b1 := Y1.out.cell 1
  have a2 := X1.out.cell 2
  have b2 := Y1.out.cell 2
  have la := X1.out.lt
  have lb := Y1.out.lt
  simp at a0 b0 a1 b1 a2 b2
  go_wp2_with fail
  go_ret
  exact ⟨rfl, HB1.out⟩
end
end Go.Proofs.Ytacndjbhlhbknaa
