/-
  qdLock compares.
-/
import Derived.Test.YtpnlmdnjpcjhjaaLS6s
import Derived.Test.YtpnlmdnjpcjhjaaTqInt
namespace Go.Proofs.Ytpnlmdnjpcjhjaa
open Go.RowKit
section
variable {w : World} {hi hi2 : Nat} {D : Lk} {x0 x1 x2 y0 y1 y2 : Value}
set_option maxHeartbeats 2000000 in
set_option maxRecDepth 100000 in
theorem qdLock_t (h : tyLock.R w hi [x0, x1, x2] D) (h2 : tyLock.R w hi2 [y0, y1, y2] D) :
    Calls Try.prog 22 #[.agg #[x0, x1, x2], .agg #[y0, y1, y2]] w fun e w' => e = .returned (.bool true) ∧ Below w.heap.size w w' := by
  obtain ⟨A, n, c, A2, n2, c2, hcs, ⟨l0, m0, r0⟩, l1, m1, r1⟩ := tyLock_R h
  simp only [List.cons.injEq, and_true] at hcs
  obtain ⟨rfl, rfl, rfl⟩ := hcs
  have q0 : n ≤ 9223372036854775807 := by unfold maxLen at m0; omega
  have q1 : n2 ≤ 9223372036854775807 := by unfold maxLen at m1; omega
  obtain ⟨B, p, d, B2, p2, d2, hcs2, ⟨l0b, m0b, r0b⟩, l1b, m1b, r1b⟩ := tyLock_R h2
  simp only [List.cons.injEq, and_true] at hcs2
  obtain ⟨rfl, rfl, rfl⟩ := hcs2
  obtain rfl : n = p := l0.symm.trans l0b
  obtain rfl : n2 = p2 := l1.symm.trans l1b
  have HR := Lib.hid (rowL r0)
  have HS := Lib.hid (rowL r0b)
  have HR1 := Lib.hid r1
  have HS1 := Lib.hid r1b
  clear h h2 m0 m0b l0 l0b r0 r0b m1 m1b l1 l1b r1 r1b
  obtain ⟨W, l, L⟩ := D
  dsimp only at HR HS HR1 HS1 ⊢
  have X0 := Lib.hid ((Box.new w #[.int .i64 W, .slice A n c, .slice A2 n2 c2] 28).alloc (.cells #[.int .i64 W, .slice B n d, .slice B2 n2 d2] 28))
  have Y0 := Lib.hid (Box.new (w.alloc (.cells #[.int .i64 W, .slice A n c, .slice A2 n2 c2] 28)) #[.int .i64 W, .slice B n d, .slice B2 n2 d2] 28)
  simp only [World.size_alloc] at Y0
  have HB0 := Lib.hid (show Below w.heap.size w ((w.alloc (.cells #[.int .i64 W, .slice A n c, .slice A2 n2 c2] 28)).alloc (.cells #[.int .i64 W, .slice B n d, .slice B2 n2 d2] 28)) from ((Below.refl _ _).alloc (Nat.le_refl _) _).alloc (by simp only [World.size_alloc]; omega) _)
  go_enter Try.func22, Try.ntmps22
  have a0 := X0.out.cell 0
  have b0 := Y0.out.cell 0
  have a1 := X0.out.cell 1
  have b1 := Y0.out.cell 1
  have a2 := X0.out.cell 2
  have b2 := Y0.out.cell 2
  have la := X0.out.lt
  have lb := Y0.out.lt
  simp at a0 b0 a1 b1 a2 b2
  go_wp2_with fail
  refine (qdInt_S (HR1.out.wb HB0.out) (HS1.out.wb HB0.out) q1).mono ?_
  rintro e w1 ⟨rfl, hb1⟩
  have HB2 := Lib.hid (HB0.out.trans (hb1.mono HB0.out.size))
  have X2 := Lib.hid (X0.out.below hb1 X0.out.lt)
  have Y2 := Lib.hid (Y0.out.below hb1 Y0.out.lt)
  clear hb1 a0 b0 a1 b1 a2 b2 la lb X0 Y0 HB0
  have a0 := X2.out.cell 0
  have b0 := Y2.out.cell 0
  have a1 := X2.out.cell 1
  have b1 := Y2.out.cell 1
  have a2 := X2.out.cell 2
  have b2 := Y2.out.cell 2
  have la := X2.out.lt
  have lb := Y2.out.lt
  simp at a0 b0 a1 b1 a2 b2
  go_wp2_with fail
  go_loopw [5] (fun i wr => ∃ k : Nat, k ≤ n ∧ i = .int .i64 k ∧ Box wr w.heap.size #[.int .i64 W, .slice A n c, .slice A2 n2 c2] 28 ∧ Box wr (w.heap.size + 1) #[.int .i64 W, .slice B n d, .slice B2 n2 d2] 28 ∧ Below w.heap.size w wr) (fun i _ => n - (intOf i).toNat)
  case atStart => exact ⟨0, Nat.zero_le _, rfl, X2.out, Y2.out, HB2.out⟩
  case round =>
    obtain ⟨k, hk, rfl, hx, hy, hb⟩ := hrel
    clear a0 b0 a1 b1 a2 b2 la lb X2 Y2 HB2
    have X1 := Lib.hid hx
    have Y1 := Lib.hid hy
    have HB1 := Lib.hid hb
    clear hx hy hb
    have a1 := X1.out.cell 1
    have b1 := Y1.out.cell 1
    have la := X1.out.lt
    have lb := Y1.out.lt
    simp at a1 b1
    by_cases hlt : k < n
    · obtain ⟨b, o, rfl, hb0, hc⟩ := HR.out (by omega)
      obtain ⟨bb, oo, rfl, hb2, hd⟩ := HS.out (by omega)
      have hk1 : (k : Int) < n := by omega
      have hk2 : (0 : Int) ≤ k := by omega
      obtain ⟨c0, c1, c2, c3⟩ := (hc k hlt).below HB1.out hb0
      obtain ⟨d0, d1, d2, d3⟩ := (hd k hlt).below HB1.out hb2
      generalize l.getD k thZ = a at c0 c1 c2 c3 d0 d1 d2 d3
      obtain ⟨f0, f1, f2, f3⟩ := a
      dsimp only at c0 c1 c2 c3 d0 d1 d2 d3
      clear hc hd
      go_wp2_with fail
      go_quiet (fail)
      go_wp2_with fail
      go_roundw
      case rel => exact ⟨k + 1, by omega, by go_num, X1.out, Y1.out, bel_drewN HB1.out _⟩
      case measure => simp [intOf]; omega
    · obtain rfl : k = n := by omega
      go_wp2_with fail
      go_ret
      exact ⟨rfl, HB1.out⟩
end
end Go.Proofs.Ytpnlmdnjpcjhjaa
