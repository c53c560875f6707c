/-
  The laws' helpers on Space.
-/
import Derived.Test.YtfmbadhiflaldaaYArea
import Derived.Test.YtfmbadhiflaldaaYSlot
namespace Go.Proofs.Ytfmbadhiflaldaa
open Go.RowKit

def tySpace : Ty (Bool × List EArea × List ESlot) := (Ty.pair tyB (Ty.pair tySArea tySSlot))
def totSpace (D : Bool × List EArea × List ESlot) : Nat := totSArea D.2.1 + totSSlot D.2.2
def wfSpace (D : Bool × List EArea × List ESlot) : Prop := wfSArea D.2.1 ∧ wfSSlot D.2.2
def cntSpace (D : Bool × List EArea × List ESlot) : Int := cntSArea D.2.1 + cntSSlot D.2.2
def mksSpace (k : Int) (D : Bool × List EArea × List ESlot) : Bool × List EArea × List ESlot := (D.1, mksSArea (k) D.2.1, mksSSlot (k + cntSArea D.2.1) D.2.2)
theorem cntSpace_le (D : Bool × List EArea × List ESlot) : 0 ≤ cntSpace D ∧ cntSpace D ≤ 8 * (totSpace D : Int) := by
  have h1 := cntSArea_le D.2.1
  have h2 := cntSSlot_le D.2.2
  unfold cntSpace totSpace
  omega
theorem totSpace_mk (k : Int) (D : Bool × List EArea × List ESlot) : totSpace (mksSpace k D) = totSpace D := by simp only [totSpace, mksSpace, totSArea_mk, totSSlot_mk]
theorem cntSpace_mk (k : Int) (D : Bool × List EArea × List ESlot) : cntSpace (mksSpace k D) = cntSpace D := by simp only [cntSpace, mksSpace, cntSArea_mk, cntSSlot_mk]
theorem tySpace_sh {w : World} {hi : Nat} {cs : List Value} {D : Bool × List EArea × List ESlot} (h : tySpace.R w hi cs D) : ∃ (A_1 : Option Addr) (n_1 : Nat) (c_1 : Nat) (A_2 : Option Addr) (n_2 : Nat) (c_2 : Nat), cs = [.bool D.1, .slice A_1 n_1 c_1, .slice A_2 n_2 c_2] := by
  obtain ⟨c0, r0, e0, h0, c1, r1, e1, h1, h2⟩ := h
  obtain rfl := h0
  obtain ⟨A1, n1, c1, rfl⟩ := tySArea_sh h1
  obtain ⟨A2, n2, c2, rfl⟩ := tySSlot_sh h2
  subst e1
  subst e0
  exact ⟨_, _, _, _, _, _, rfl⟩
theorem tySpace_shM {w : World} {fp : List Nat} {cs : List Value} {D : Bool × List EArea × List ESlot} (h : tySpace.M w fp cs D) : ∃ (A_1 : Option Addr) (n_1 : Nat) (c_1 : Nat) (A_2 : Option Addr) (n_2 : Nat) (c_2 : Nat), cs = [.bool D.1, .slice A_1 n_1 c_1, .slice A_2 n_2 c_2] := by
  obtain ⟨f0, F0, c0, r0, ef0, e0, d0, h0, f1, F1, c1, r1, ef1, e1, d1, h1, h2⟩ := h
  obtain ⟨rfl, rfl⟩ := h0
  obtain ⟨A1, n1, c1, rfl⟩ := tySArea_shM h1
  obtain ⟨A2, n2, c2, rfl⟩ := tySSlot_shM h2
  subst e1
  subst ef1
  subst e0
  exact ⟨_, _, _, _, _, _, rfl⟩
theorem tySpace_R {w : World} {hi : Nat} {D : Bool × List EArea × List ESlot} {x0 x1 x2 : Value} (h : tySpace.R w hi [x0, x1, x2] D) : x0 = .bool D.1 ∧ tySArea.R w hi [x1] D.2.1 ∧ tySSlot.R w hi [x2] D.2.2 := by
  obtain ⟨c0, r0, e0, h0, c1, r1, e1, h1, h2⟩ := h
  obtain rfl := h0
  obtain ⟨A1, n1, c1, rfl⟩ := tySArea_sh h1
  obtain ⟨A2, n2, c2, rfl⟩ := tySSlot_sh h2
  subst e1
  simp only [List.cons_append, List.nil_append, List.cons.injEq, and_true] at e0
  obtain ⟨rfl, rfl, rfl⟩ := e0
  exact ⟨rfl, h1, h2⟩
theorem tySpace_Rmk {w : World} {hi : Nat} {D : Bool × List EArea × List ESlot} {x1 x2 : Value} (h1 : tySArea.R w hi [x1] D.2.1) (h2 : tySSlot.R w hi [x2] D.2.2) : tySpace.R w hi [.bool D.1, x1, x2] D := ⟨[.bool D.1], [x1, x2], rfl, rfl, [x1], [x2], rfl, h1, h2⟩
theorem tySpace_M {w : World} {fp : List Nat} {D : Bool × List EArea × List ESlot} {x0 x1 x2 : Value} (h : tySpace.M w fp [x0, x1, x2] D) : ∃ f1 f2, fp = [] ++ (f1 ++ (f2)) ∧ x0 = .bool D.1 ∧ tySArea.M w f1 [x1] D.2.1 ∧ tySSlot.M w f2 [x2] D.2.2 ∧ (∀ b ∈ f1, b ∉ f2) := by
  obtain ⟨f0, F0, c0, r0, ef0, e0, d0, h0, f1, F1, c1, r1, ef1, e1, d1, h1, h2⟩ := h
  obtain ⟨rfl, rfl⟩ := h0
  obtain ⟨A1, n1, c1, rfl⟩ := tySArea_shM h1
  obtain ⟨A2, n2, c2, rfl⟩ := tySSlot_shM h2
  subst e1
  subst ef1
  subst ef0
  simp only [List.cons_append, List.nil_append, List.cons.injEq, and_true] at e0
  obtain ⟨rfl, rfl, rfl⟩ := e0
  exact ⟨f1, _, rfl, rfl, h1, h2, fun b h1 h2 => d1 b h1 h2⟩
theorem tySpace_Mmk {w : World} {D : Bool × List EArea × List ESlot} {x1 x2 : Value} {f1 f2 : List Nat} (h1 : tySArea.M w f1 [x1] D.2.1) (h2 : tySSlot.M w f2 [x2] D.2.2) (d1_2 : ∀ b ∈ f1, b ∉ f2) : tySpace.M w ([] ++ (f1 ++ (f2))) [.bool D.1, x1, x2] D := ⟨[], f1 ++ (f2), [.bool D.1], [x1, x2], rfl, rfl, fun _ h1 => absurd h1 List.not_mem_nil, ⟨rfl, rfl⟩, f1, f2, [x1], [x2], rfl, rfl, fun b h1 h2 => d1_2 b h1 h2, h1, h2⟩
section
variable {w : World} {hi hi2 : Nat} {D : Bool × List EArea × List ESlot} {fp : List Nat} {x0 y0 x1 y1 x2 y2 : Value}
theorem szY_Space (left : Int) (hl : 0 ≤ left) (hl2 : left ≤ 1048576) (hw : wfSpace D) (h : tySpace.R w hi [x0, x1, x2] D) :
    Calls Try.prog 114 #[.agg #[x0, x1, x2], .int .i64 left] w fun e w' => ∃ z : Int, e = .returned (.int .i64 z) ∧ (0 ≤ z → (totSpace D : Int) + z ≤ left) ∧ -1 ≤ z ∧ Below w.heap.size w w' := by
  obtain ⟨rfl, r1, r2⟩ := tySpace_R h
  unfold wfSpace at hw
  obtain ⟨u1, u2⟩ := hw
  unfold totSpace
  have HR1 := Lib.hid r1
  have HR2 := Lib.hid r2
  clear h r1 r2
  generalize D.1 = v0
  have X0 := Lib.hid (Box.new w #[.bool v0, x1, x2] 175)
  have HB0 := Lib.hid (show Below w.heap.size w (w.alloc (.cells #[.bool v0, x1, x2] 175)) from (Below.refl _ _).alloc (Nat.le_refl _) _)
  go_enter Try.func114, Try.ntmps114
  have a0 := X0.out.cell 0
  have a1 := X0.out.cell 1
  have a2 := X0.out.cell 2
  have la := X0.out.lt
  simp at a0 a1 a2
  go_wp2_with fail
  refine (szY_SArea left hl hl2 u1 (Ty.below_w HR1.out HB0.out)).mono ?_
  rintro e w1 ⟨z0, rfl, hz0, hy0, hb1⟩
  have HB1 := Lib.hid (HB0.out.trans (hb1.mono HB0.out.size))
  have X1 := Lib.hid (X0.out.below hb1 X0.out.lt)
  clear hb1 la a0 a1 a2
  by_cases hp0 : 0 ≤ z0
  case neg =>
    clear hz0
    go_wp2
    go_ret
    exact ⟨_, rfl, fun h => by omega, by omega, HB1.out⟩
  have v0z := hz0 hp0
  have k0 : z0 ≤ 1048576 := by omega
  clear hz0
  have a0 := X1.out.cell 0
  have a1 := X1.out.cell 1
  have a2 := X1.out.cell 2
  have la := X1.out.lt
  simp at a0 a1 a2
  go_wp2_with fail
  refine (szY_SSlot z0 hp0 k0 u2 (Ty.below_w HR2.out HB1.out)).mono ?_
  rintro e w2 ⟨z1, rfl, hz1, hy1, hb2⟩
  have HB2 := Lib.hid (HB1.out.trans (hb2.mono HB1.out.size))
  have X2 := Lib.hid (X1.out.below hb2 X1.out.lt)
  clear hb2 la a0 a1 a2
  by_cases hp1 : 0 ≤ z1
  case neg =>
    clear hz1
    go_wp2
    go_ret
    exact ⟨_, rfl, fun h => by omega, by omega, HB2.out⟩
  have v1z := hz1 hp1
  have k1 : z1 ≤ 1048576 := by omega
  clear hz1
  go_wp2_with fail
  go_ret
  exact ⟨_, rfl, fun _ => by omega, by omega, HB2.out⟩
set_option maxHeartbeats 1000000 in
theorem eqY_Space (h : tySpace.R w hi [x0, x1, x2] D) (h2 : tySpace.R w hi2 [y0, y1, y2] D) :
    Calls Try.prog 120 #[.agg #[x0, x1, x2], .agg #[y0, y1, y2]] w fun e w' => e = .returned (.bool true) ∧ Below w.heap.size w w' := by
  obtain ⟨rfl, r1, r2⟩ := tySpace_R h
  obtain ⟨rfl, r1b, r2b⟩ := tySpace_R h2
  have HR1 := Lib.hid r1
  have HS1 := Lib.hid r1b
  have HR2 := Lib.hid r2
  have HS2 := Lib.hid r2b
  clear h h2 r1 r1b r2 r2b
  generalize D.1 = v0
  have X0 := Lib.hid ((Box.new w #[.bool v0, x1, x2] 45).alloc (.cells #[.bool v0, y1, y2] 45))
  have Y0 := Lib.hid (Box.new (w.alloc (.cells #[.bool v0, x1, x2] 45)) #[.bool v0, y1, y2] 45)
  simp only [World.size_alloc] at Y0
  have HB0 := Lib.hid (show Below w.heap.size w ((w.alloc (.cells #[.bool v0, x1, x2] 45)).alloc (.cells #[.bool v0, y1, y2] 45)) from ((Below.refl _ _).alloc (Nat.le_refl _) _).alloc (by simp only [World.size_alloc]; omega) _)
  go_enter Try.func120, Try.ntmps120
  have a0 := X0.out.cell 0
  have b0 := Y0.out.cell 0
  have a1 := X0.out.cell 1
  have b1 := Y0.out.cell 1
  have a2 := X0.out.cell 2
  have b2 := Y0.out.cell 2
  have la := X0.out.lt
  have lb := Y0.out.lt
  simp at a0 b0 a1 b1 a2 b2
  go_wp2_with fail
  refine (eqY_SArea (Ty.below_w HR1.out HB0.out) (Ty.below_w HS1.out HB0.out)).mono ?_
  rintro e w1 ⟨rfl, hb1⟩
  have HB1 := Lib.hid (HB0.out.trans (hb1.mono HB0.out.size))
  have X1 := Lib.hid (X0.out.below hb1 X0.out.lt)
  have Y1 := Lib.hid (Y0.out.below hb1 Y0.out.lt)
  clear hb1 la lb a0 b0 a1 b1 a2 b2
  have a0 := X1.out.cell 0
  have b0 := Y1.out.cell 0
  have a1 := X1.out.cell 1
  have b1 := Y1.out.cell 1
  have a2 := X1.out.cell 2
  have b2 := Y1.out.cell 2
  have la := X1.out.lt
  have lb := Y1.out.lt
  simp at a0 b0 a1 b1 a2 b2
  go_wp2_with fail
  refine (eqY_SSlot (Ty.below_w HR2.out HB1.out) (Ty.below_w HS2.out HB1.out)).mono ?_
  rintro e w2 ⟨rfl, hb2⟩
  have HB2 := Lib.hid (HB1.out.trans (hb2.mono HB1.out.size))
  have X2 := Lib.hid (X1.out.below hb2 X1.out.lt)
  have Y2 := Lib.hid (Y1.out.below hb2 Y1.out.lt)
  clear hb2 la lb a0 b0 a1 b1 a2 b2
  have a0 := X2.out.cell 0
  have b0 := Y2.out.cell 0
  have a1 := X2.out.cell 1
  have b1 := Y2.out.cell 1
  have a2 := X2.out.cell 2
  have b2 := Y2.out.cell 2
  have la := X2.out.lt
  have lb := Y2.out.lt
  simp at a0 b0 a1 b1 a2 b2
  go_wp2_with fail
  go_ret
  exact ⟨rfl, HB2.out⟩
set_option maxHeartbeats 2000000 in
theorem toY_Space (h : tySpace.R w hi [x0, x1, x2] D) (hs : totSpace D ≤ 1048576) :
    Calls Try.prog 117 #[.agg #[x0, x1, x2]] w fun e w' => ∃ y0 y1 y2 fp, e = .returned (.agg #[y0, y1, y2]) ∧ tySpace.M w' fp [y0, y1, y2] D ∧ (∀ b ∈ fp, w.heap.size ≤ b ∧ b < w'.heap.size) ∧ Below w.heap.size w w' := by
  obtain ⟨rfl, r1, r2⟩ := tySpace_R h
  unfold totSpace at hs
  have t1 : totSArea D.2.1 ≤ 1048576 := by omega
  have HR1 := Lib.hid r1
  have t2 : totSSlot D.2.2 ≤ 1048576 := by omega
  have HR2 := Lib.hid r2
  clear h hs r1 r2
  generalize hv0 : D.1 = v0
  have HV0 := Lib.hid hv0
  clear hv0
  have B0 := Lib.hid (((Box.new w #[.bool v0, x1, x2] 175).alloc (.cells #[.bool false, .slice none 0 0, .slice none 0 0] 45)).alloc (.cells #[.bool v0, .slice none 0 0, .slice none 0 0] 45))
  have C0 := Lib.hid ((Box.new (w.alloc (.cells #[.bool v0, x1, x2] 175)) #[.bool false, .slice none 0 0, .slice none 0 0] 45).alloc (.cells #[.bool v0, .slice none 0 0, .slice none 0 0] 45))
  have D0 := Lib.hid (Box.new ((w.alloc (.cells #[.bool v0, x1, x2] 175)).alloc (.cells #[.bool false, .slice none 0 0, .slice none 0 0] 45)) #[.bool v0, .slice none 0 0, .slice none 0 0] 45)
  simp only [World.size_alloc] at C0 D0
  have HB0 := Lib.hid (show Below w.heap.size w (((w.alloc (.cells #[.bool v0, x1, x2] 175)).alloc (.cells #[.bool false, .slice none 0 0, .slice none 0 0] 45)).alloc (.cells #[.bool v0, .slice none 0 0, .slice none 0 0] 45)) from (((Below.refl _ _).alloc (Nat.le_refl _) _).alloc (by simp only [World.size_alloc]; omega) _).alloc (by simp only [World.size_alloc]; omega) _)
  have s0 : w.heap.size + 1 + 1 < (((w.alloc (.cells #[.bool v0, x1, x2] 175)).alloc (.cells #[.bool false, .slice none 0 0, .slice none 0 0] 45)).alloc (.cells #[.bool v0, .slice none 0 0, .slice none 0 0] 45)).heap.size := by simp
  go_enter Try.func117, Try.ntmps117
  go_wp2_with fail
  have HP0 := Lib.hid HB0.out
  have DP0 := Lib.hid D0.out
  have CP0 := Lib.hid C0.out
  have BP0 := Lib.hid B0.out
  refine (toY_SArea (Ty.below_w HR1.out HP0.out) t1).mono ?_
  rintro e w1 ⟨y1, f1, rfl, hm1, hg1, hb1⟩
  obtain ⟨Ay1, ny1, cy1, hsh⟩ := tySArea_shM hm1
  simp only [List.cons.injEq, and_true] at hsh
  subst hsh
  have HM1 := Lib.hid hm1
  have hs1 := hb1.size
  have HB1 := Lib.hid (HP0.out.trans (hb1.mono HP0.out.size))
  have B1 := Lib.hid (BP0.out.below hb1 BP0.out.lt)
  have C1 := Lib.hid (CP0.out.below hb1 CP0.out.lt)
  have D1 := Lib.hid (DP0.out.below hb1 DP0.out.lt)
  have FT1_1 := Lib.hid (Foot.refl w1 [w.heap.size + 1, w.heap.size + 1 + 1])
  have hG1 := Lib.hid hg1
  have hS1 := Lib.hid hs1
  clear hm1 hg1 hs1 hb1
  have b0 := B1.out.cell 0
  have c0 := C1.out.cell 0
  have d0 := D1.out.cell 0
  have fc0 := C1.out.frz 0
  have fd0 := D1.out.frz 0
  have b1 := B1.out.cell 1
  have c1 := C1.out.cell 1
  have d1 := D1.out.cell 1
  have fc1 := C1.out.frz 1
  have fd1 := D1.out.frz 1
  have b2 := B1.out.cell 2
  have c2 := C1.out.cell 2
  have d2 := D1.out.cell 2
  have fc2 := C1.out.frz 2
  have fd2 := D1.out.frz 2
  have lb := B1.out.lt
  have lc := C1.out.lt
  have ld := D1.out.lt
  simp at b0 c0 d0 b1 c1 d1 b2 c2 d2
  go_wp2_with fail
  have HP1 := Lib.hid (HB1.out.setCell (p := ⟨w.heap.size + 1 + 1, 1, none⟩) (by show w.heap.size ≤ w.heap.size + 1 + 1; omega) (.slice Ay1 ny1 cy1))
  have DP1 := Lib.hid (D1.out.set 1 (.slice Ay1 ny1 cy1))
  have CP1 := Lib.hid (C1.out.other (a := ⟨w.heap.size + 1 + 1, 1, none⟩) (by show w.heap.size + 1 ≠ w.heap.size + 1 + 1; omega) (.slice Ay1 ny1 cy1))
  have BP1 := Lib.hid (B1.out.other (a := ⟨w.heap.size + 1 + 1, 1, none⟩) (by show w.heap.size ≠ w.heap.size + 1 + 1; omega) (.slice Ay1 ny1 cy1))
  have FP1_1 := Lib.hid (FT1_1.out.set (b := w.heap.size + 1 + 1) (by simp) 1 (.slice Ay1 ny1 cy1))
  refine (toY_SSlot (Ty.below_w HR2.out HP1.out) t2).mono ?_
  rintro e w2 ⟨y2, f2, rfl, hm2, hg2, hb2⟩
  obtain ⟨Ay2, ny2, cy2, hsh⟩ := tySSlot_shM hm2
  simp only [List.cons.injEq, and_true] at hsh
  subst hsh
  have HM2 := Lib.hid hm2
  have hs2 := hb2.size
  simp only [World.size_setCell] at hs2 hg2
  have HB2 := Lib.hid (HP1.out.trans (hb2.mono HP1.out.size))
  have B2 := Lib.hid (BP1.out.below hb2 BP1.out.lt)
  have C2 := Lib.hid (CP1.out.below hb2 CP1.out.lt)
  have D2 := Lib.hid (DP1.out.below hb2 DP1.out.lt)
  have FT1_2 := Lib.hid (FP1_1.out.trans (Foot.of_below hb2 [w.heap.size + 1, w.heap.size + 1 + 1]))
  have FT2_2 := Lib.hid (Foot.refl w2 [w.heap.size + 1, w.heap.size + 1 + 1])
  have hG2 := Lib.hid hg2
  have hS2 := Lib.hid hs2
  clear hm2 hg2 hs2 hb2 lb lc ld b0 c0 d0 fc0 fd0 b1 c1 d1 fc1 fd1 b2 c2 d2 fc2 fd2
  have b0 := B2.out.cell 0
  have c0 := C2.out.cell 0
  have d0 := D2.out.cell 0
  have fc0 := C2.out.frz 0
  have fd0 := D2.out.frz 0
  have b1 := B2.out.cell 1
  have c1 := C2.out.cell 1
  have d1 := D2.out.cell 1
  have fc1 := C2.out.frz 1
  have fd1 := D2.out.frz 1
  have b2 := B2.out.cell 2
  have c2 := C2.out.cell 2
  have d2 := D2.out.cell 2
  have fc2 := C2.out.frz 2
  have fd2 := D2.out.frz 2
  have lb := B2.out.lt
  have lc := C2.out.lt
  have ld := D2.out.lt
  simp at b0 c0 d0 b1 c1 d1 b2 c2 d2
  go_wp2_with fail
  refine bodyPost_ret (v := .agg #[.bool v0, .slice Ay1 ny1 cy1, .slice Ay2 ny2 cy2]) (by simp [results, Try.results117, go_sem, c0, c1, c2]) rfl ⟨_, _, _, [] ++ (f1 ++ (f2)), rfl, ?_, ?_, ((((HB2.out.setCell (by show w.heap.size ≤ w.heap.size + 1 + 1; omega) _).setCell (by show w.heap.size ≤ w.heap.size + 1; omega) _).setCell (by show w.heap.size ≤ w.heap.size + 1; omega) _).setCell (by show w.heap.size ≤ w.heap.size + 1; omega) _)⟩
  · rw [← HV0.out]
    have s0' := s0
    simp only [World.size_alloc] at s0'
    have hG1 := hG1.out
    simp only [World.size_alloc] at hG1
    replace hG1 := Lib.hid hG1
    have hS1 := hS1.out
    simp only [World.size_alloc] at hS1
    replace hS1 := Lib.hid hS1
    exact tySpace_Mmk (Ty.mf HM1.out ((((FT1_2.out.set (b := w.heap.size + 1 + 1) (by simp) _ _).set (b := w.heap.size + 1) (by simp) _ _).set (b := w.heap.size + 1) (by simp) _ _).set (b := w.heap.size + 1) (by simp) _ _) fun b hb => ⟨(hG1.out b hb).2, fun hx => by have h1 := hG1.out b hb; have q1 := hS1.out; have q2 := hS2.out; simp only [List.mem_cons, List.not_mem_nil, or_false] at hx; omega⟩) (Ty.mf HM2.out ((((FT2_2.out.set (b := w.heap.size + 1 + 1) (by simp) _ _).set (b := w.heap.size + 1) (by simp) _ _).set (b := w.heap.size + 1) (by simp) _ _).set (b := w.heap.size + 1) (by simp) _ _) fun b hb => ⟨(hG2.out b hb).2, fun hx => by have h1 := hG2.out b hb; have q1 := hS1.out; have q2 := hS2.out; simp only [List.mem_cons, List.not_mem_nil, or_false] at hx; omega⟩) (fun b h1 h2 => by have p1 := hG1.out b h1; have p2 := hG2.out b h2; have q1 := hS1.out; have q2 := hS2.out; omega) 
  · intro b hb
    have hS1 := hS1.out
    simp only [World.size_alloc] at hS1
    replace hS1 := Lib.hid hS1
    have hG1 := hG1.out
    simp only [World.size_alloc] at hG1
    replace hG1 := Lib.hid hG1
    simp only [World.size_setCell]
    have q1 := hS1.out; have q2 := hS2.out
    exact (List.mem_append.1 hb).elim (fun q0 => absurd q0 List.not_mem_nil) (fun p0 => (List.mem_append.1 p0).elim (fun q1 => by have p := hG1.out b q1; omega) (fun p1 => by have p := hG2.out b p1; omega))
end
end Go.Proofs.Ytfmbadhiflaldaa
