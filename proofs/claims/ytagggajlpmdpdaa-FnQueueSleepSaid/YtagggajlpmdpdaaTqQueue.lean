/-
  qdQueue compares.
-/
import Derived.Test.YtagggajlpmdpdaaQKit
import Derived.Test.YtagggajlpmdpdaaQSA
namespace Go.Proofs.Ytagggajlpmdpdaa
open Go.RowKit
section
variable {w : World} {hi hi2 : Nat} {D : List ETask × Int} {x0 x1 y0 y1 : Value}
set_option maxHeartbeats 2000000 in
set_option maxRecDepth 100000 in
theorem qdQueue_t (h : tyQueue.R w hi [x0, x1] D) (h2 : tyQueue.R w hi2 [y0, y1] D) :
    Calls Try.prog 27 #[.agg #[x0, x1], .agg #[y0, y1]] w fun e w' => e = .returned (.bool true) ∧ Below w.heap.size w w' := by
  obtain ⟨A, n, c, hcs, l0, m0, r0⟩ := tyQueue_R h
  simp only [List.cons.injEq, and_true] at hcs
  obtain ⟨rfl, rfl⟩ := hcs
  have q0 : n ≤ 9223372036854775807 := by unfold maxLen at m0; omega
  obtain ⟨B, p, d, hcs2, l0b, m0b, r0b⟩ := tyQueue_R h2
  simp only [List.cons.injEq, and_true] at hcs2
  obtain ⟨rfl, rfl⟩ := hcs2
  obtain rfl : n = p := l0.symm.trans l0b
  have HR := Lib.hid (rowT r0)
  have HS := Lib.hid (rowT r0b)
  clear h h2 m0 m0b l0 l0b r0 r0b
  obtain ⟨l, F⟩ := D
  dsimp only at HR HS ⊢
  have X0 := Lib.hid ((Box.new w #[.slice A n c, .int .i64 F] 25).alloc (.cells #[.slice B n d, .int .i64 F] 25))
  have Y0 := Lib.hid (Box.new (w.alloc (.cells #[.slice A n c, .int .i64 F] 25)) #[.slice B n d, .int .i64 F] 25)
  simp only [World.size_alloc] at Y0
  have HB0 := Lib.hid (show Below w.heap.size w ((w.alloc (.cells #[.slice A n c, .int .i64 F] 25)).alloc (.cells #[.slice B n d, .int .i64 F] 25)) from ((Below.refl _ _).alloc (Nat.le_refl _) _).alloc (by simp only [World.size_alloc]; omega) _)
  go_enter Try.func27, Try.ntmps27
  have a0 := X0.out.cell 0
  have b0 := Y0.out.cell 0
  have a1 := X0.out.cell 1
  have b1 := Y0.out.cell 1
  have la := X0.out.lt
  have lb := Y0.out.lt
  simp at a0 b0 a1 b1
  go_wp2_with fail
  go_loopw [5] (fun i wr => ∃ k : Nat, k ≤ n ∧ i = .int .i64 k ∧ Box wr w.heap.size #[.slice A n c, .int .i64 F] 25 ∧ Box wr (w.heap.size + 1) #[.slice B n d, .int .i64 F] 25 ∧ Below w.heap.size w wr) (fun i _ => n - (intOf i).toNat)
  case atStart => exact ⟨0, Nat.zero_le _, rfl, X0.out, Y0.out, HB0.out⟩
  case round =>
    obtain ⟨k, hk, rfl, hx, hy, hb⟩ := hrel
    clear a0 b0 a1 b1 la lb X0 Y0 HB0
    have X1 := Lib.hid hx
    have Y1 := Lib.hid hy
    have HB1 := Lib.hid hb
    clear hx hy hb
    have a0 := X1.out.cell 0
    have b0 := Y1.out.cell 0
    have la := X1.out.lt
    have lb := Y1.out.lt
    simp at a0 b0
    by_cases hlt : k < n
    · obtain ⟨b, o, rfl, hb0, hc⟩ := HR.out (by omega)
      obtain ⟨b2, o2, rfl, hb2, hd⟩ := HS.out (by omega)
      have hk1 : (k : Int) < n := by omega
      have hk2 : (0 : Int) ≤ k := by omega
      obtain ⟨c0, c1, c2, c3⟩ := (hc k hlt).below HB1.out hb0
      obtain ⟨d0, d1, d2, d3⟩ := (hd k hlt).below HB1.out hb2
      generalize tA l k = a at c0 c1 c2 c3 d0 d1 d2 d3
      obtain ⟨f0, f1, f2, f3⟩ := a
      dsimp only at c0 c1 c2 c3 d0 d1 d2 d3
      clear hc hd
      go_wp2_with fail
      go_quiet (fail)
      go_wp2_with fail
      go_roundw
      case rel => exact ⟨k + 1, by omega, by go_num, X1.out, Y1.out, bel_drewN HB1.out _⟩
      case measure => simp [intOf]; omega
    · obtain rfl : k = n := by omega
      go_wp2_with fail
      go_ret
      exact ⟨rfl, HB1.out⟩
end
end Go.Proofs.Ytagggajlpmdpdaa
