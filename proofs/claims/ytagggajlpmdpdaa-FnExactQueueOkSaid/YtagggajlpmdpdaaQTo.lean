/-
  toQueue of the laws, the capacity told.
-/
import Derived.Test.YtagggajlpmdpdaaQS3
namespace Go.Proofs.Ytagggajlpmdpdaa
open Go.RowKit

section
variable {w : World} {hi : Nat} {D : List ETask × Int} {x0 x1 : Value}
set_option maxHeartbeats 2000000 in
theorem toQueue_c (h : tyQueue.R w hi [x0, x1] D) (hs : smallQueue D) :
    Calls Try.prog 50 #[.agg #[x0, x1]] w fun e w' => ∃ y0 y1 fp, e = .returned (.agg #[y0, y1]) ∧ tyQueue.M w' fp [y0, y1] D ∧ CapQ y0 ∧ (∀ b ∈ fp, w.heap.size ≤ b ∧ b < w'.heap.size) ∧ Below w.heap.size w w' := by
  obtain ⟨A0, n0, c0, hcs, ⟨l0, m0, r0⟩⟩ := tyQueue_R h
  simp only [List.cons.injEq, and_true] at hcs
  obtain ⟨rfl, rfl⟩ := hcs
  unfold smallQueue at hs
  have t0 := hs
  rw [l0] at t0
  have HR0 := Lib.hid r0
  have HL0 := Lib.hid l0
  clear h hs m0 l0 r0
  generalize hv1 : D.2 = v1
  have HV1 := Lib.hid hv1
  clear hv1
  have B0 := Lib.hid (((Box.new w #[.slice A0 n0 c0, .int .i64 v1] 49).alloc (.cells #[.slice none 0 0, .int .i64 0] 25)).alloc (.cells #[.slice none 0 0, .int .i64 0] 25))
  have C0 := Lib.hid ((Box.new (w.alloc (.cells #[.slice A0 n0 c0, .int .i64 v1] 49)) #[.slice none 0 0, .int .i64 0] 25).alloc (.cells #[.slice none 0 0, .int .i64 0] 25))
  have D0 := Lib.hid (Box.new ((w.alloc (.cells #[.slice A0 n0 c0, .int .i64 v1] 49)).alloc (.cells #[.slice none 0 0, .int .i64 0] 25)) #[.slice none 0 0, .int .i64 0] 25)
  simp only [World.size_alloc] at C0 D0
  have HB0 := Lib.hid (show Below w.heap.size w (((w.alloc (.cells #[.slice A0 n0 c0, .int .i64 v1] 49)).alloc (.cells #[.slice none 0 0, .int .i64 0] 25)).alloc (.cells #[.slice none 0 0, .int .i64 0] 25)) from (((Below.refl _ _).alloc (Nat.le_refl _) _).alloc (by simp only [World.size_alloc]; omega) _).alloc (by simp only [World.size_alloc]; omega) _)
  go_enter Try.func50, Try.ntmps50
  go_wp2_with fail
  have HP0 := Lib.hid HB0.out
  have DP0 := Lib.hid D0.out
  have CP0 := Lib.hid C0.out
  have BP0 := Lib.hid B0.out
  refine (toTask_S (HR0.out.wb HP0.out) HL0.out t0).mono ?_
  rintro e w1 ⟨g0, rfl, hm0, hg0, hh0, hb1⟩
  have hgs0 := hg0
  have hsz1 := hb1.size
  have HB1 := Lib.hid (HP0.out.trans (hb1.mono HP0.out.size))
  have B1 := Lib.hid (BP0.out.below hb1 BP0.out.lt)
  have C1 := Lib.hid (CP0.out.below hb1 CP0.out.lt)
  have D1 := Lib.hid (DP0.out.below hb1 DP0.out.lt)
  have hgd0 : w.heap.size + 1 + 1 < g0 := Nat.lt_of_lt_of_le DP0.out.lt hg0
  have M0_1 := Lib.hid hm0
  clear hm0 hb1 hsz1
  have b0 := B1.out.cell 0
  have c0 := C1.out.cell 0
  have d0 := D1.out.cell 0
  have fc0 := C1.out.frz 0
  have fd0 := D1.out.frz 0
  have b1 := B1.out.cell 1
  have c1 := C1.out.cell 1
  have d1 := D1.out.cell 1
  have fc1 := C1.out.frz 1
  have fd1 := D1.out.frz 1
  have lb := B1.out.lt
  have lc := C1.out.lt
  have ld := D1.out.lt
  simp at b0 c0 d0 b1 c1 d1
  go_wp2_with fail
  refine bodyPost_ret (v := .agg #[.slice (some ⟨g0, 0, none⟩) n0 n0, .int .i64 v1]) (by simp [results, Try.results50, go_sem, c0, c1]) rfl ⟨_, _, [g0], rfl, ?_, capQ (Nat.le_refl _), ?_, ((((HB1.out.setCell (by show w.heap.size ≤ w.heap.size + 1 + 1; omega) _).setCell (by show w.heap.size ≤ w.heap.size + 1 + 1; omega) _).setCell (by show w.heap.size ≤ w.heap.size + 1; omega) _).setCell (by show w.heap.size ≤ w.heap.size + 1; omega) _)⟩
  · rw [← HV1.out]
    exact tyQueue_Mmk ⟨HL0.out, t0, ((((M0_1.out.off (show g0 ≠ w.heap.size + 1 + 1 by omega) _ _).off (show g0 ≠ w.heap.size + 1 + 1 by omega) _ _).off (show g0 ≠ w.heap.size + 1 by omega) _ _).off (show g0 ≠ w.heap.size + 1 by omega) _ _)⟩  
  · intro b hb
    simp only [List.mem_singleton, World.size_setCell] at hb ⊢
    subst hb
    omega
end
end Go.Proofs.Ytagggajlpmdpdaa
