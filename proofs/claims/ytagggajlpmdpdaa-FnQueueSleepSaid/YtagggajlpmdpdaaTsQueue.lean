/-
  The laws' helpers on Queue: to, eq, sz, mark, held.
-/
import Derived.Test.YtagggajlpmdpdaaTeTask
namespace Go.Proofs.Ytagggajlpmdpdaa
open Go.RowKit

def tyQueue : Ty (List ETask × Int) := (Ty.pair (tyF elTask) tyI)
def smallQueue (D : List ETask × Int) : Prop := D.1.length ≤ 1048576
theorem tyQueue_R {w : World} {hi : Nat} {cs : List Value} {D : List ETask × Int} (h : tyQueue.R w hi cs D) : ∃ (A0 : Option Addr) (n0 c0 : Nat), cs = [.slice A0 n0 c0, .int .i64 D.2] ∧ (D.1.length = n0 ∧ n0 ≤ maxLen ∧ RowF elTask w hi A0 n0 D.1) := by
  obtain ⟨_, _, rfl, ⟨A0, n0, c0, rfl, r0⟩, rfl⟩ := h
  exact ⟨A0, n0, c0, rfl, r0⟩
theorem tyQueue_sh {w : World} {hi : Nat} {cs : List Value} {D : List ETask × Int} (h : tyQueue.R w hi cs D) : ∃ (A0 : Option Addr) (n0 c0 : Nat), cs = [.slice A0 n0 c0, .int .i64 D.2] := by
  obtain ⟨A0, n0, c0, rfl, _⟩ := tyQueue_R h
  exact ⟨A0, n0, c0, rfl⟩
theorem tyQueue_Rmk {w : World} {hi : Nat} {D : List ETask × Int} {A0 : Option Addr} {n0 c0 : Nat} (h0 : D.1.length = n0 ∧ n0 ≤ maxLen ∧ RowF elTask w hi A0 n0 D.1) : tyQueue.R w hi [.slice A0 n0 c0, .int .i64 D.2] D := ⟨_, _, rfl, ⟨_, _, _, rfl, h0⟩, rfl⟩
theorem tyQueue_M {w : World} {fp : List Nat} {cs : List Value} {D : List ETask × Int} (h : tyQueue.M w fp cs D) : ∃ (A0 : Option Addr) (n0 c0 : Nat) (f0 : List Nat), cs = [.slice A0 n0 c0, .int .i64 D.2] ∧ f0 = fp ∧ (D.1.length = n0 ∧ n0 ≤ 1048576 ∧ RowM elTask w f0 A0 n0 D.1) := by
  obtain ⟨e0, _, _, _, rfl, rfl, d0, ⟨A0, n0, c0, rfl, r0⟩, ⟨rfl, rfl⟩⟩ := h
  exact ⟨A0, n0, c0, _, rfl, by simp only [List.append_nil], r0⟩
theorem tyQueue_shM {w : World} {fp : List Nat} {cs : List Value} {D : List ETask × Int} (h : tyQueue.M w fp cs D) : ∃ (A0 : Option Addr) (n0 c0 : Nat), cs = [.slice A0 n0 c0, .int .i64 D.2] := by
  obtain ⟨A0, n0, c0, _, rfl, _⟩ := tyQueue_M h
  exact ⟨A0, n0, c0, rfl⟩
theorem tyQueue_Mmk {w : World} {D : List ETask × Int} {A0 : Option Addr} {n0 c0 : Nat} {f0 : List Nat} (h0 : D.1.length = n0 ∧ n0 ≤ 1048576 ∧ RowM elTask w f0 A0 n0 D.1) : tyQueue.M w (f0) [.slice A0 n0 c0, .int .i64 D.2] D := by
  have h : tyQueue.M w (f0 ++ ([])) [.slice A0 n0 c0, .int .i64 D.2] D := ⟨f0, [], _, _, rfl, rfl, fun b _ h => absurd h List.not_mem_nil, ⟨_, _, _, rfl, h0⟩, ⟨rfl, rfl⟩⟩
  simp only [List.append_nil] at h
  exact h
section
variable {w : World} {hi hi2 : Nat} {D : List ETask × Int} {fp : List Nat} {x0 x1 y0 y1 : Value}
theorem szQueue_t (left : Int) (hl : 0 ≤ left) (hl2 : left ≤ 1048576) (h : tyQueue.R w hi [x0, x1] D) :
    Calls Try.prog 49 #[.agg #[x0, x1], .int .i64 left] w fun e w' => ∃ z : Int, e = .returned (.int .i64 z) ∧ (0 ≤ z → smallQueue D ∧ z ≤ left) ∧ -1 ≤ z ∧ Below w.heap.size w w' := by
  obtain ⟨A0, n0, c0, hcs, ⟨l0, m0, r0⟩⟩ := tyQueue_R h
  simp only [List.cons.injEq, and_true] at hcs
  obtain ⟨rfl, rfl⟩ := hcs
  unfold smallQueue
  rw [l0]
  have q0 : n0 ≤ 9223372036854775807 := by unfold maxLen at m0; omega
  clear h r0 m0
  have HW := Lib.hid (show Below w.heap.size w (w.alloc (.cells #[.slice A0 n0 c0, .int .i64 D.2] 49)) from (Below.refl _ _).alloc (Nat.le_refl _) _)
  go_enter Try.func49, Try.ntmps49
  go_wp2_with fail
  refine (szTask_S left hl hl2 q0).mono ?_
  rintro e w0 ⟨z0, rfl, hz0, hy0, rfl⟩
  by_cases hp0 : 0 ≤ z0
  case neg =>
    clear hz0
    go_wp2
    go_ret
    exact ⟨_, rfl, fun h => by omega, by omega, HW.out⟩
  obtain ⟨u0, v0⟩ := hz0 hp0
  have k0 : z0 ≤ 1048576 := by omega
  clear hz0
  go_wp2_with fail
  go_ret
  exact ⟨_, rfl, fun _ => ⟨u0, by omega⟩, by omega, HW.out⟩
set_option maxHeartbeats 1000000 in
theorem eqQueue_t (h : tyQueue.R w hi [x0, x1] D) (h2 : tyQueue.R w hi2 [y0, y1] D) :
    Calls Try.prog 51 #[.agg #[x0, x1], .agg #[y0, y1]] w fun e w' => e = .returned (.bool true) ∧ Below w.heap.size w w' := by
  obtain ⟨A0, n0, c0, hcs, ⟨l0, m0, r0⟩⟩ := tyQueue_R h
  simp only [List.cons.injEq, and_true] at hcs
  obtain ⟨rfl, rfl⟩ := hcs
  have q0 : n0 ≤ 9223372036854775807 := by unfold maxLen at m0; omega
  obtain ⟨B0, p0, d0, hcs2, ⟨l0b, m0b, r0b⟩⟩ := tyQueue_R h2
  simp only [List.cons.injEq, and_true] at hcs2
  obtain ⟨rfl, rfl⟩ := hcs2
  obtain rfl : n0 = p0 := l0.symm.trans l0b
  have HR0 := Lib.hid r0
  have HS0 := Lib.hid r0b
  clear h h2 m0 m0b l0 l0b r0 r0b
  generalize D.2 = v1
  generalize D.1 = L0 at HR0 HS0
  have X0 := Lib.hid ((Box.new w #[.slice A0 n0 c0, .int .i64 v1] 25).alloc (.cells #[.slice B0 n0 d0, .int .i64 v1] 25))
  have Y0 := Lib.hid (Box.new (w.alloc (.cells #[.slice A0 n0 c0, .int .i64 v1] 25)) #[.slice B0 n0 d0, .int .i64 v1] 25)
  simp only [World.size_alloc] at Y0
  have HB0 := Lib.hid (show Below w.heap.size w ((w.alloc (.cells #[.slice A0 n0 c0, .int .i64 v1] 25)).alloc (.cells #[.slice B0 n0 d0, .int .i64 v1] 25)) from ((Below.refl _ _).alloc (Nat.le_refl _) _).alloc (by simp only [World.size_alloc]; omega) _)
  go_enter Try.func51, Try.ntmps51
  have a0 := X0.out.cell 0
  have b0 := Y0.out.cell 0
  have a1 := X0.out.cell 1
  have b1 := Y0.out.cell 1
  have la := X0.out.lt
  have lb := Y0.out.lt
  simp at a0 b0 a1 b1
  go_wp2_with fail
  refine (eqTask_S (HR0.out.wb HB0.out) (HS0.out.wb HB0.out) q0).mono ?_
  rintro e w1 ⟨rfl, hb1⟩
  have HB1 := Lib.hid (HB0.out.trans (hb1.mono HB0.out.size))
  have X1 := Lib.hid (X0.out.below hb1 X0.out.lt)
  have Y1 := Lib.hid (Y0.out.below hb1 Y0.out.lt)
  clear hb1 la lb a0 b0 a1 b1
  have a0 := X1.out.cell 0
  have b0 := Y1.out.cell 0
  have a1 := X1.out.cell 1
  have b1 := Y1.out.cell 1
  have la := X1.out.lt
  have lb := Y1.out.lt
  simp at a0 b0 a1 b1
  go_wp2_with fail
  go_ret
  exact ⟨rfl, HB1.out⟩
set_option maxHeartbeats 2000000 in
theorem toQueue_t (h : tyQueue.R w hi [x0, x1] D) (hs : smallQueue D) :
    Calls Try.prog 50 #[.agg #[x0, x1]] w fun e w' => ∃ y0 y1 fp, e = .returned (.agg #[y0, y1]) ∧ tyQueue.M w' fp [y0, y1] D ∧ (∀ b ∈ fp, w.heap.size ≤ b ∧ b < w'.heap.size) ∧ Below w.heap.size w w' := by
  obtain ⟨A0, n0, c0, hcs, ⟨l0, m0, r0⟩⟩ := tyQueue_R h
  simp only [List.cons.injEq, and_true] at hcs
  obtain ⟨rfl, rfl⟩ := hcs
  unfold smallQueue at hs
  have t0 := hs
  rw [l0] at t0
  have HR0 := Lib.hid r0
  have HL0 := Lib.hid l0
  clear h hs m0 l0 r0
  generalize hv1 : D.2 = v1
  have HV1 := Lib.hid hv1
  clear hv1
  have B0 := Lib.hid (((Box.new w #[.slice A0 n0 c0, .int .i64 v1] 49).alloc (.cells #[.slice none 0 0, .int .i64 0] 25)).alloc (.cells #[.slice none 0 0, .int .i64 0] 25))
  have C0 := Lib.hid ((Box.new (w.alloc (.cells #[.slice A0 n0 c0, .int .i64 v1] 49)) #[.slice none 0 0, .int .i64 0] 25).alloc (.cells #[.slice none 0 0, .int .i64 0] 25))
  have D0 := Lib.hid (Box.new ((w.alloc (.cells #[.slice A0 n0 c0, .int .i64 v1] 49)).alloc (.cells #[.slice none 0 0, .int .i64 0] 25)) #[.slice none 0 0, .int .i64 0] 25)
  simp only [World.size_alloc] at C0 D0
  have HB0 := Lib.hid (show Below w.heap.size w (((w.alloc (.cells #[.slice A0 n0 c0, .int .i64 v1] 49)).alloc (.cells #[.slice none 0 0, .int .i64 0] 25)).alloc (.cells #[.slice none 0 0, .int .i64 0] 25)) from (((Below.refl _ _).alloc (Nat.le_refl _) _).alloc (by simp only [World.size_alloc]; omega) _).alloc (by simp only [World.size_alloc]; omega) _)
  go_enter Try.func50, Try.ntmps50
  go_wp2_with fail
  have HP0 := Lib.hid HB0.out
  have DP0 := Lib.hid D0.out
  have CP0 := Lib.hid C0.out
  have BP0 := Lib.hid B0.out
  refine (toTask_S (HR0.out.wb HP0.out) HL0.out t0).mono ?_
  rintro e w1 ⟨g0, rfl, hm0, hg0, hh0, hb1⟩
  have hgs0 := hg0
  have hsz1 := hb1.size
  have HB1 := Lib.hid (HP0.out.trans (hb1.mono HP0.out.size))
  have B1 := Lib.hid (BP0.out.below hb1 BP0.out.lt)
  have C1 := Lib.hid (CP0.out.below hb1 CP0.out.lt)
  have D1 := Lib.hid (DP0.out.below hb1 DP0.out.lt)
  have hgd0 : w.heap.size + 1 + 1 < g0 := Nat.lt_of_lt_of_le DP0.out.lt hg0
  have M0_1 := Lib.hid hm0
  clear hm0 hb1 hsz1
  have b0 := B1.out.cell 0
  have c0 := C1.out.cell 0
  have d0 := D1.out.cell 0
  have fc0 := C1.out.frz 0
  have fd0 := D1.out.frz 0
  have b1 := B1.out.cell 1
  have c1 := C1.out.cell 1
  have d1 := D1.out.cell 1
  have fc1 := C1.out.frz 1
  have fd1 := D1.out.frz 1
  have lb := B1.out.lt
  have lc := C1.out.lt
  have ld := D1.out.lt
  simp at b0 c0 d0 b1 c1 d1
  go_wp2_with fail
  refine bodyPost_ret (v := .agg #[.slice (some ⟨g0, 0, none⟩) n0 n0, .int .i64 v1]) (by simp [results, Try.results50, go_sem, c0, c1]) rfl ⟨_, _, [g0], rfl, ?_, ?_, ((((HB1.out.setCell (by show w.heap.size ≤ w.heap.size + 1 + 1; omega) _).setCell (by show w.heap.size ≤ w.heap.size + 1 + 1; omega) _).setCell (by show w.heap.size ≤ w.heap.size + 1; omega) _).setCell (by show w.heap.size ≤ w.heap.size + 1; omega) _)⟩
  · rw [← HV1.out]
    exact tyQueue_Mmk ⟨HL0.out, t0, ((((M0_1.out.off (show g0 ≠ w.heap.size + 1 + 1 by omega) _ _).off (show g0 ≠ w.heap.size + 1 + 1 by omega) _ _).off (show g0 ≠ w.heap.size + 1 by omega) _ _).off (show g0 ≠ w.heap.size + 1 by omega) _ _)⟩  
  · intro b hb
    simp only [List.mem_singleton, World.size_setCell] at hb ⊢
    subst hb
    omega
def mksQueue (k : Int) (D : List ETask × Int) : List ETask × Int := (mksG mkTask 4 (k) D.1.length, D.2)
def cntQueue (D : List ETask × Int) : Int := 4 * (D.1.length : Int)
theorem cntQueue_mk (k : Int) : cntQueue (mksQueue k D) = cntQueue D := by simp only [cntQueue, mksQueue, mksG_len]
theorem cntQueue_pos : 0 ≤ cntQueue D := by unfold cntQueue; omega
set_option maxHeartbeats 1000000 in
theorem markQueue_t (k : Int) (h0 : 0 < k) (h1 : k ≤ 900000000) (hm : tyQueue.M w fp [x0, x1] D) (hf : ∀ b ∈ fp, b < w.heap.size) :
    Calls Try.prog 52 #[.agg #[x0, x1], .int .i64 k] w fun e w' => e = .returned (.int .i64 (k + cntQueue D)) ∧ tyQueue.M w' fp [x0, x1] (mksQueue k D) ∧ Foot w w' fp := by
  obtain ⟨A0, n0, c0, f0, hcs, rfl, ⟨l0, m0, r0⟩⟩ := tyQueue_M hm
  simp only [List.cons.injEq, and_true] at hcs
  obtain ⟨rfl, rfl⟩ := hcs
  unfold cntQueue
  have HM0_0 := Lib.hid r0
  have HL0 := Lib.hid l0
  rw [l0]
  have HF := Lib.hid hf
  clear hm hf l0 r0 
  have X0 := Lib.hid (Box.new w #[.slice A0 n0 c0, .int .i64 D.2] 25)
  have HT0 := Lib.hid (Foot.of_below (show Below w.heap.size w (w.alloc (.cells #[.slice A0 n0 c0, .int .i64 D.2] 25)) from (Below.refl _ _).alloc (Nat.le_refl _) _) (f0))
  have HM0_1 := Lib.hid (HM0_0.out.frame fun b hb => Below.heap_alloc w (.cells #[.slice A0 n0 c0, .int .i64 D.2] 25) b (HF.out b (by first | exact hb | exact List.mem_append_left _ hb | exact List.mem_append_right _ hb | exact List.mem_append_right _ (List.mem_append_left _ hb) | exact List.mem_append_right _ (List.mem_append_right _ hb))))
  go_enter Try.func52, Try.ntmps52
  have a0 := X0.out.cell 0
  have a1 := X0.out.cell 1
  have la := X0.out.lt
  simp at a0 a1
  go_wp2_with fail
  refine (markTask_S (k) (by omega) (by omega) HL0.out m0 HM0_1.out).mono ?_
  rintro e w1 ⟨rfl, hm0, ht1⟩
  have HN0_1 := Lib.hid hm0
  have HT1 := Lib.hid (HT0.out.trans (ht1.sub fun b hb => by first | exact hb | exact List.mem_append_left _ hb | exact List.mem_append_right _ hb | exact List.mem_append_right _ (List.mem_append_left _ hb) | exact List.mem_append_right _ (List.mem_append_right _ hb)))
  have X1 := Lib.hid (ht1.box X0.out fun hb => by have := HF.out w.heap.size (by first | exact hb | exact List.mem_append_left _ hb | exact List.mem_append_right _ hb | exact List.mem_append_right _ (List.mem_append_left _ hb) | exact List.mem_append_right _ (List.mem_append_right _ hb)); omega)
  clear hm0 ht1 la a0 a1
  go_wp2_with fail
  go_ret
  refine ⟨ret_int (by omega), ?_, HT1.out⟩
  have e := tyQueue_Mmk (D := mksQueue k D) (A0 := A0) (n0 := n0) (c0 := c0) ⟨by simp only [mksQueue, mksG_len]; exact HL0.out, m0, by have h := HN0_1.out; simp only [mksQueue]; rw [HL0.out]; exact h⟩  
  exact e
set_option maxHeartbeats 1000000 in
theorem heldQueue_t (k : Int) (h0 : 0 < k) (h1 : k ≤ 900000000) (h : tyQueue.R w hi [x0, x1] (mksQueue k D)) (hs : smallQueue D) :
    Calls Try.prog 53 #[.agg #[x0, x1], .int .i64 k] w fun e w' => e = .returned (.int .i64 (k + cntQueue D)) ∧ Below w.heap.size w w' := by
  obtain ⟨A0, n0, c0, hcs, ⟨l0, m0, r0⟩⟩ := tyQueue_R h
  simp only [List.cons.injEq, and_true] at hcs
  obtain ⟨rfl, rfl⟩ := hcs
  unfold smallQueue at hs
  have t0 := hs
  simp only [mksQueue, mksG_len] at l0 r0
  unfold cntQueue
  rw [l0]
  rw [l0] at r0
  rw [l0] at t0
  have HR0 := Lib.hid r0
  clear h hs l0 r0 m0
  dsimp only [mksQueue]
  have X0 := Lib.hid (Box.new w #[.slice A0 n0 c0, .int .i64 D.2] 25)
  have HB0 := Lib.hid (show Below w.heap.size w (w.alloc (.cells #[.slice A0 n0 c0, .int .i64 D.2] 25)) from (Below.refl _ _).alloc (Nat.le_refl _) _)
  go_enter Try.func53, Try.ntmps53
  have a0 := X0.out.cell 0
  have a1 := X0.out.cell 1
  have la := X0.out.lt
  simp at a0 a1
  go_wp2_with fail
  refine (heldTask_S (k) (by omega) (by omega) t0 (HR0.out.wb HB0.out)).mono ?_
  rintro e w1 ⟨rfl, hb1⟩
  have HB1 := Lib.hid (HB0.out.trans (hb1.mono HB0.out.size))
  have X1 := Lib.hid (X0.out.below hb1 X0.out.lt)
  clear hb1 la a0 a1
  have hp1 : ¬ (k + 4 * (n0 : Int) < 0) := by omega
  go_wp2_with fail
  go_ret
  exact ⟨ret_int (by omega), HB1.out⟩
end
end Go.Proofs.Ytagggajlpmdpdaa
