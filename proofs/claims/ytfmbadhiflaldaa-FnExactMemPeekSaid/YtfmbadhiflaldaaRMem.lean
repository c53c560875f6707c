/-
  The laws' helpers on Mem.
-/
import Derived.Test.YtfmbadhiflaldaaRPages
import Derived.Test.YtfmbadhiflaldaaRSSpace
namespace Go.Proofs.Ytfmbadhiflaldaa
open Go.RowKit

def tyMem : Ty ((List ByteArray × List Int) × (List ByteArray × List Int) × List (Bool × List EArea × List ESlot) × Int) := (Ty.pair tyPages (Ty.pair tyPages (Ty.pair tySSpace tyI)))
def totMem (D : (List ByteArray × List Int) × (List ByteArray × List Int) × List (Bool × List EArea × List ESlot) × Int) : Nat := totPages D.1 + totPages D.2.1 + totSSpace D.2.2.1
def wfMem (D : (List ByteArray × List Int) × (List ByteArray × List Int) × List (Bool × List EArea × List ESlot) × Int) : Prop := wfPages D.1 ∧ wfPages D.2.1 ∧ wfSSpace D.2.2.1
def cntMem (D : (List ByteArray × List Int) × (List ByteArray × List Int) × List (Bool × List EArea × List ESlot) × Int) : Int := cntPages D.1 + cntPages D.2.1 + cntSSpace D.2.2.1
def mksMem (k : Int) (D : (List ByteArray × List Int) × (List ByteArray × List Int) × List (Bool × List EArea × List ESlot) × Int) : (List ByteArray × List Int) × (List ByteArray × List Int) × List (Bool × List EArea × List ESlot) × Int := (mksPages (k) D.1, mksPages (k + cntPages D.1) D.2.1, mksSSpace (k + cntPages D.1 + cntPages D.2.1) D.2.2.1, D.2.2.2)
theorem cntMem_le (D : (List ByteArray × List Int) × (List ByteArray × List Int) × List (Bool × List EArea × List ESlot) × Int) : 0 ≤ cntMem D ∧ cntMem D ≤ 8 * (totMem D : Int) := by
  have h0 := cntPages_le D.1
  have h1 := cntPages_le D.2.1
  have h2 := cntSSpace_le D.2.2.1
  unfold cntMem totMem
  omega
theorem totMem_mk (k : Int) (D : (List ByteArray × List Int) × (List ByteArray × List Int) × List (Bool × List EArea × List ESlot) × Int) : totMem (mksMem k D) = totMem D := by simp only [totMem, mksMem, totPages_mk, totSSpace_mk]
theorem cntMem_mk (k : Int) (D : (List ByteArray × List Int) × (List ByteArray × List Int) × List (Bool × List EArea × List ESlot) × Int) : cntMem (mksMem k D) = cntMem D := by simp only [cntMem, mksMem, cntPages_mk, cntSSpace_mk]
theorem tyMem_sh {w : World} {hi : Nat} {cs : List Value} {D : (List ByteArray × List Int) × (List ByteArray × List Int) × List (Bool × List EArea × List ESlot) × Int} (h : tyMem.R w hi cs D) : ∃ (A_0_0 : Option Addr) (n_0_0 : Nat) (c_0_0 : Nat) (A_0_1 : Option Addr) (n_0_1 : Nat) (c_0_1 : Nat) (A_1_0 : Option Addr) (n_1_0 : Nat) (c_1_0 : Nat) (A_1_1 : Option Addr) (n_1_1 : Nat) (c_1_1 : Nat) (A_2 : Option Addr) (n_2 : Nat) (c_2 : Nat), cs = [.slice A_0_0 n_0_0 c_0_0, .slice A_0_1 n_0_1 c_0_1, .slice A_1_0 n_1_0 c_1_0, .slice A_1_1 n_1_1 c_1_1, .slice A_2 n_2 c_2, .int .i64 D.2.2.2] := by
  obtain ⟨c0, r0, e0, h0, c1, r1, e1, h1, c2, r2, e2, h2, h3⟩ := h
  obtain ⟨A0_0, n0_0, c0_0, A0_1, n0_1, c0_1, rfl⟩ := tyPages_sh h0
  obtain ⟨A1_0, n1_0, c1_0, A1_1, n1_1, c1_1, rfl⟩ := tyPages_sh h1
  obtain ⟨A2, n2, c2, rfl⟩ := tySSpace_sh h2
  obtain rfl := h3
  subst e2
  subst e1
  subst e0
  exact ⟨_, _, _, _, _, _, _, _, _, _, _, _, _, _, _, rfl⟩
theorem tyMem_shM {w : World} {fp : List Nat} {cs : List Value} {D : (List ByteArray × List Int) × (List ByteArray × List Int) × List (Bool × List EArea × List ESlot) × Int} (h : tyMem.M w fp cs D) : ∃ (A_0_0 : Option Addr) (n_0_0 : Nat) (c_0_0 : Nat) (A_0_1 : Option Addr) (n_0_1 : Nat) (c_0_1 : Nat) (A_1_0 : Option Addr) (n_1_0 : Nat) (c_1_0 : Nat) (A_1_1 : Option Addr) (n_1_1 : Nat) (c_1_1 : Nat) (A_2 : Option Addr) (n_2 : Nat) (c_2 : Nat), cs = [.slice A_0_0 n_0_0 c_0_0, .slice A_0_1 n_0_1 c_0_1, .slice A_1_0 n_1_0 c_1_0, .slice A_1_1 n_1_1 c_1_1, .slice A_2 n_2 c_2, .int .i64 D.2.2.2] := by
  obtain ⟨f0, F0, c0, r0, ef0, e0, d0, h0, f1, F1, c1, r1, ef1, e1, d1, h1, f2, F2, c2, r2, ef2, e2, d2, h2, h3⟩ := h
  obtain ⟨A0_0, n0_0, c0_0, A0_1, n0_1, c0_1, rfl⟩ := tyPages_shM h0
  obtain ⟨A1_0, n1_0, c1_0, A1_1, n1_1, c1_1, rfl⟩ := tyPages_shM h1
  obtain ⟨A2, n2, c2, rfl⟩ := tySSpace_shM h2
  obtain ⟨rfl, rfl⟩ := h3
  subst e2
  subst ef2
  subst e1
  subst ef1
  subst e0
  exact ⟨_, _, _, _, _, _, _, _, _, _, _, _, _, _, _, rfl⟩
theorem tyMem_R {w : World} {hi : Nat} {D : (List ByteArray × List Int) × (List ByteArray × List Int) × List (Bool × List EArea × List ESlot) × Int} {x0 x1 x2 x3 x4 x5 : Value} (h : tyMem.R w hi [x0, x1, x2, x3, x4, x5] D) : tyPages.R w hi [x0, x1] D.1 ∧ tyPages.R w hi [x2, x3] D.2.1 ∧ tySSpace.R w hi [x4] D.2.2.1 ∧ x5 = .int .i64 D.2.2.2 := by
  obtain ⟨c0, r0, e0, h0, c1, r1, e1, h1, c2, r2, e2, h2, h3⟩ := h
  obtain ⟨A0_0, n0_0, c0_0, A0_1, n0_1, c0_1, rfl⟩ := tyPages_sh h0
  obtain ⟨A1_0, n1_0, c1_0, A1_1, n1_1, c1_1, rfl⟩ := tyPages_sh h1
  obtain ⟨A2, n2, c2, rfl⟩ := tySSpace_sh h2
  obtain rfl := h3
  subst e2
  subst e1
  simp only [List.cons_append, List.nil_append, List.cons.injEq, and_true] at e0
  obtain ⟨rfl, rfl, rfl, rfl, rfl, rfl⟩ := e0
  exact ⟨h0, h1, h2, rfl⟩
theorem tyMem_Rmk {w : World} {hi : Nat} {D : (List ByteArray × List Int) × (List ByteArray × List Int) × List (Bool × List EArea × List ESlot) × Int} {x0 x1 x2 x3 x4 : Value} (h0 : tyPages.R w hi [x0, x1] D.1) (h1 : tyPages.R w hi [x2, x3] D.2.1) (h2 : tySSpace.R w hi [x4] D.2.2.1) : tyMem.R w hi [x0, x1, x2, x3, x4, .int .i64 D.2.2.2] D := ⟨[x0, x1], [x2, x3, x4, .int .i64 D.2.2.2], rfl, h0, [x2, x3], [x4, .int .i64 D.2.2.2], rfl, h1, [x4], [.int .i64 D.2.2.2], rfl, h2, rfl⟩
theorem tyMem_M {w : World} {fp : List Nat} {D : (List ByteArray × List Int) × (List ByteArray × List Int) × List (Bool × List EArea × List ESlot) × Int} {x0 x1 x2 x3 x4 x5 : Value} (h : tyMem.M w fp [x0, x1, x2, x3, x4, x5] D) : ∃ f0 f1 f2, fp = f0 ++ (f1 ++ (f2 ++ ([]))) ∧ tyPages.M w f0 [x0, x1] D.1 ∧ tyPages.M w f1 [x2, x3] D.2.1 ∧ tySSpace.M w f2 [x4] D.2.2.1 ∧ x5 = .int .i64 D.2.2.2 ∧ (∀ b ∈ f0, b ∉ f1) ∧ (∀ b ∈ f0, b ∉ f2) ∧ (∀ b ∈ f1, b ∉ f2) := by
  obtain ⟨f0, F0, c0, r0, ef0, e0, d0, h0, f1, F1, c1, r1, ef1, e1, d1, h1, f2, F2, c2, r2, ef2, e2, d2, h2, h3⟩ := h
  obtain ⟨A0_0, n0_0, c0_0, A0_1, n0_1, c0_1, rfl⟩ := tyPages_shM h0
  obtain ⟨A1_0, n1_0, c1_0, A1_1, n1_1, c1_1, rfl⟩ := tyPages_shM h1
  obtain ⟨A2, n2, c2, rfl⟩ := tySSpace_shM h2
  obtain ⟨rfl, rfl⟩ := h3
  subst e2
  subst ef2
  subst e1
  subst ef1
  subst ef0
  simp only [List.cons_append, List.nil_append, List.cons.injEq, and_true] at e0
  obtain ⟨rfl, rfl, rfl, rfl, rfl, rfl⟩ := e0
  exact ⟨f0, f1, f2, rfl, h0, h1, h2, rfl, fun b h1 h2 => d0 b h1 (List.mem_append_left _ h2), fun b h1 h2 => d0 b h1 (List.mem_append_right _ (List.mem_append_left _ h2)), fun b h1 h2 => d1 b h1 (List.mem_append_left _ h2)⟩
theorem tyMem_Mmk {w : World} {D : (List ByteArray × List Int) × (List ByteArray × List Int) × List (Bool × List EArea × List ESlot) × Int} {x0 x1 x2 x3 x4 : Value} {f0 f1 f2 : List Nat} (h0 : tyPages.M w f0 [x0, x1] D.1) (h1 : tyPages.M w f1 [x2, x3] D.2.1) (h2 : tySSpace.M w f2 [x4] D.2.2.1) (d0_1 : ∀ b ∈ f0, b ∉ f1) (d0_2 : ∀ b ∈ f0, b ∉ f2) (d1_2 : ∀ b ∈ f1, b ∉ f2) : tyMem.M w (f0 ++ (f1 ++ (f2 ++ ([])))) [x0, x1, x2, x3, x4, .int .i64 D.2.2.2] D := ⟨f0, f1 ++ (f2 ++ ([])), [x0, x1], [x2, x3, x4, .int .i64 D.2.2.2], rfl, rfl, fun b h1 h2 => (List.mem_append.1 h2).elim (fun q1 => d0_1 b h1 q1) (fun p1 => (List.mem_append.1 p1).elim (fun q2 => d0_2 b h1 q2) (fun p2 => absurd p2 List.not_mem_nil)), h0, f1, f2 ++ ([]), [x2, x3], [x4, .int .i64 D.2.2.2], rfl, rfl, fun b h1 h2 => (List.mem_append.1 h2).elim (fun q2 => d1_2 b h1 q2) (fun p2 => absurd p2 List.not_mem_nil), h1, f2, [], [x4], [.int .i64 D.2.2.2], rfl, rfl, fun _ _ h2 => absurd h2 List.not_mem_nil, h2, ⟨rfl, rfl⟩⟩
section
variable {w : World} {hi hi2 : Nat} {D : (List ByteArray × List Int) × (List ByteArray × List Int) × List (Bool × List EArea × List ESlot) × Int} {fp : List Nat} {x0 y0 x1 y1 x2 y2 x3 y3 x4 y4 x5 y5 : Value}
theorem szY_Mem (left : Int) (hl : 0 ≤ left) (hl2 : left ≤ 1048576) (hw : wfMem D) (h : tyMem.R w hi [x0, x1, x2, x3, x4, x5] D) :
    Calls Try.prog 36 #[.agg #[x0, x1, x2, x3, x4, x5], .int .i64 left] w fun e w' => ∃ z : Int, e = .returned (.int .i64 z) ∧ (0 ≤ z → (totMem D : Int) + z ≤ left) ∧ -1 ≤ z ∧ Below w.heap.size w w' := by
  obtain ⟨r0, r1, r2, rfl⟩ := tyMem_R h
  unfold wfMem at hw
  obtain ⟨u0, u1, u2⟩ := hw
  unfold totMem
  have HR0 := Lib.hid r0
  have HR1 := Lib.hid r1
  have HR2 := Lib.hid r2
  clear h r0 r1 r2
  generalize D.2.2.2 = v3
  have X0 := Lib.hid (Box.new w #[x0, x1, x2, x3, x4, .int .i64 v3] 67)
  have HB0 := Lib.hid (show Below w.heap.size w (w.alloc (.cells #[x0, x1, x2, x3, x4, .int .i64 v3] 67)) from (Below.refl _ _).alloc (Nat.le_refl _) _)
  go_enter Try.func36, Try.ntmps36
  have a0 := X0.out.cell 0
  have a1 := X0.out.cell 1
  have a2 := X0.out.cell 2
  have a3 := X0.out.cell 3
  have a4 := X0.out.cell 4
  have a5 := X0.out.cell 5
  have la := X0.out.lt
  simp at a0 a1 a2 a3 a4 a5
  go_wp2_with fail
  refine (szY_Pages left hl hl2 u0 (Ty.below_w HR0.out HB0.out)).mono ?_
  rintro e w1 ⟨z0, rfl, hz0, hy0, hb1⟩
  have HB1 := Lib.hid (HB0.out.trans (hb1.mono HB0.out.size))
  have X1 := Lib.hid (X0.out.below hb1 X0.out.lt)
  clear hb1 la a0 a1 a2 a3 a4 a5
  by_cases hp0 : 0 ≤ z0
  case neg =>
    clear hz0
    go_wp2
    go_ret
    exact ⟨_, rfl, fun h => by omega, by omega, HB1.out⟩
  have v0z := hz0 hp0
  have k0 : z0 ≤ 1048576 := by omega
  clear hz0
  have a0 := X1.out.cell 0
  have a1 := X1.out.cell 1
  have a2 := X1.out.cell 2
  have a3 := X1.out.cell 3
  have a4 := X1.out.cell 4
  have a5 := X1.out.cell 5
  have la := X1.out.lt
  simp at a0 a1 a2 a3 a4 a5
  go_wp2_with fail
  refine (szY_Pages z0 hp0 k0 u1 (Ty.below_w HR1.out HB1.out)).mono ?_
  rintro e w2 ⟨z1, rfl, hz1, hy1, hb2⟩
  have HB2 := Lib.hid (HB1.out.trans (hb2.mono HB1.out.size))
  have X2 := Lib.hid (X1.out.below hb2 X1.out.lt)
  clear hb2 la a0 a1 a2 a3 a4 a5
  by_cases hp1 : 0 ≤ z1
  case neg =>
    clear hz1
    go_wp2
    go_ret
    exact ⟨_, rfl, fun h => by omega, by omega, HB2.out⟩
  have v1z := hz1 hp1
  have k1 : z1 ≤ 1048576 := by omega
  clear hz1
  have a0 := X2.out.cell 0
  have a1 := X2.out.cell 1
  have a2 := X2.out.cell 2
  have a3 := X2.out.cell 3
  have a4 := X2.out.cell 4
  have a5 := X2.out.cell 5
  have la := X2.out.lt
  simp at a0 a1 a2 a3 a4 a5
  go_wp2_with fail
  refine (szY_SSpace z1 hp1 k1 u2 (Ty.below_w HR2.out HB2.out)).mono ?_
  rintro e w3 ⟨z2, rfl, hz2, hy2, hb3⟩
  have HB3 := Lib.hid (HB2.out.trans (hb3.mono HB2.out.size))
  have X3 := Lib.hid (X2.out.below hb3 X2.out.lt)
  clear hb3 la a0 a1 a2 a3 a4 a5
  by_cases hp2 : 0 ≤ z2
  case neg =>
    clear hz2
    go_wp2
    go_ret
    exact ⟨_, rfl, fun h => by omega, by omega, HB3.out⟩
  have v2z := hz2 hp2
  have k2 : z2 ≤ 1048576 := by omega
  clear hz2
  go_wp2_with fail
  go_ret
  exact ⟨_, rfl, fun _ => by omega, by omega, HB3.out⟩
set_option maxHeartbeats 1000000 in
theorem eqY_Mem (h : tyMem.R w hi [x0, x1, x2, x3, x4, x5] D) (h2 : tyMem.R w hi2 [y0, y1, y2, y3, y4, y5] D) :
    Calls Try.prog 38 #[.agg #[x0, x1, x2, x3, x4, x5], .agg #[y0, y1, y2, y3, y4, y5]] w fun e w' => e = .returned (.bool true) ∧ Below w.heap.size w w' := by
  obtain ⟨r0, r1, r2, rfl⟩ := tyMem_R h
  obtain ⟨r0b, r1b, r2b, rfl⟩ := tyMem_R h2
  have HR0 := Lib.hid r0
  have HS0 := Lib.hid r0b
  have HR1 := Lib.hid r1
  have HS1 := Lib.hid r1b
  have HR2 := Lib.hid r2
  have HS2 := Lib.hid r2b
  clear h h2 r0 r0b r1 r1b r2 r2b
  generalize D.2.2.2 = v3
  have X0 := Lib.hid ((Box.new w #[x0, x1, x2, x3, x4, .int .i64 v3] 29).alloc (.cells #[y0, y1, y2, y3, y4, .int .i64 v3] 29))
  have Y0 := Lib.hid (Box.new (w.alloc (.cells #[x0, x1, x2, x3, x4, .int .i64 v3] 29)) #[y0, y1, y2, y3, y4, .int .i64 v3] 29)
  simp only [World.size_alloc] at Y0
  have HB0 := Lib.hid (show Below w.heap.size w ((w.alloc (.cells #[x0, x1, x2, x3, x4, .int .i64 v3] 29)).alloc (.cells #[y0, y1, y2, y3, y4, .int .i64 v3] 29)) from ((Below.refl _ _).alloc (Nat.le_refl _) _).alloc (by simp only [World.size_alloc]; omega) _)
  go_enter Try.func38, Try.ntmps38
  have a0 := X0.out.cell 0
  have b0 := Y0.out.cell 0
  have a1 := X0.out.cell 1
  have b1 := Y0.out.cell 1
  have a2 := X0.out.cell 2
  have b2 := Y0.out.cell 2
  have a3 := X0.out.cell 3
  have b3 := Y0.out.cell 3
  have a4 := X0.out.cell 4
  have b4 := Y0.out.cell 4
  have a5 := X0.out.cell 5
  have b5 := Y0.out.cell 5
  have la := X0.out.lt
  have lb := Y0.out.lt
  simp at a0 b0 a1 b1 a2 b2 a3 b3 a4 b4 a5 b5
  go_wp2_with fail
  refine (eqY_Pages (Ty.below_w HR0.out HB0.out) (Ty.below_w HS0.out HB0.out)).mono ?_
  rintro e w1 ⟨rfl, hb1⟩
  have HB1 := Lib.hid (HB0.out.trans (hb1.mono HB0.out.size))
  have X1 := Lib.hid (X0.out.below hb1 X0.out.lt)
  have Y1 := Lib.hid (Y0.out.below hb1 Y0.out.lt)
  clear hb1 la lb a0 b0 a1 b1 a2 b2 a3 b3 a4 b4 a5 b5
  have a0 := X1.out.cell 0
  have b0 := Y1.out.cell 0
  have a1 := X1.out.cell 1
  have b1 := Y1.out.cell 1
  have a2 := X1.out.cell 2
  have b2 := Y1.out.cell 2
  have a3 := X1.out.cell 3
  have b3 := Y1.out.cell 3
  have a4 := X1.out.cell 4
  have b4 := Y1.out.cell 4
  have a5 := X1.out.cell 5
  have b5 := Y1.out.cell 5
  have la := X1.out.lt
  have lb := Y1.out.lt
  simp at a0 b0 a1 b1 a2 b2 a3 b3 a4 b4 a5 b5
  go_wp2_with fail
  refine (eqY_Pages (Ty.below_w HR1.out HB1.out) (Ty.below_w HS1.out HB1.out)).mono ?_
  rintro e w2 ⟨rfl, hb2⟩
  have HB2 := Lib.hid (HB1.out.trans (hb2.mono HB1.out.size))
  have X2 := Lib.hid (X1.out.below hb2 X1.out.lt)
  have Y2 := Lib.hid (Y1.out.below hb2 Y1.out.lt)
  clear hb2 la lb a0 b0 a1 b1 a2 b2 a3 b3 a4 b4 a5 b5
  have a0 := X2.out.cell 0
  have b0 := Y2.out.cell 0
  have a1 := X2.out.cell 1
  have b1 := Y2.out.cell 1
  have a2 := X2.out.cell 2
  have b2 := Y2.out.cell 2
  have a3 := X2.out.cell 3
  have b3 := Y2.out.cell 3
  have a4 := X2.out.cell 4
  have b4 := Y2.out.cell 4
  have a5 := X2.out.cell 5
  have b5 := Y2.out.cell 5
  have la := X2.out.lt
  have lb := Y2.out.lt
  simp at a0 b0 a1 b1 a2 b2 a3 b3 a4 b4 a5 b5
  go_wp2_with fail
  refine (eqY_SSpace (Ty.below_w HR2.out HB2.out) (Ty.below_w HS2.out HB2.out)).mono ?_
  rintro e w3 ⟨rfl, hb3⟩
  have HB3 := Lib.hid (HB2.out.trans (hb3.mono HB2.out.size))
  have X3 := Lib.hid (X2.out.below hb3 X2.out.lt)
  have Y3 := Lib.hid (Y2.out.below hb3 Y2.out.lt)
  clear hb3 la lb a0 b0 a1 b1 a2 b2 a3 b3 a4 b4 a5 b5
  have a0 := X3.out.cell 0
  have b0 := Y3.out.cell 0
  have a1 := X3.out.cell 1
  have b1 := Y3.out.cell 1
  have a2 := X3.out.cell 2
  have b2 := Y3.out.cell 2
  have a3 := X3.out.cell 3
  have b3 := Y3.out.cell 3
  have a4 := X3.out.cell 4
  have b4 := Y3.out.cell 4
  have a5 := X3.out.cell 5
  have b5 := Y3.out.cell 5
  have la := X3.out.lt
  have lb := Y3.out.lt
  simp at a0 b0 a1 b1 a2 b2 a3 b3 a4 b4 a5 b5
  go_wp2_with fail
  go_ret
  exact ⟨rfl, HB3.out⟩
set_option maxHeartbeats 2000000 in
theorem toY_Mem (h : tyMem.R w hi [x0, x1, x2, x3, x4, x5] D) (hs : totMem D ≤ 1048576) :
    Calls Try.prog 37 #[.agg #[x0, x1, x2, x3, x4, x5]] w fun e w' => ∃ y0 y1 y2 y3 y4 y5 fp, e = .returned (.agg #[y0, y1, y2, y3, y4, y5]) ∧ tyMem.M w' fp [y0, y1, y2, y3, y4, y5] D ∧ (∀ b ∈ fp, w.heap.size ≤ b ∧ b < w'.heap.size) ∧ Below w.heap.size w w' := by
  obtain ⟨r0, r1, r2, rfl⟩ := tyMem_R h
  unfold totMem at hs
  have t0 : totPages D.1 ≤ 1048576 := by omega
  have HR0 := Lib.hid r0
  have t1 : totPages D.2.1 ≤ 1048576 := by omega
  have HR1 := Lib.hid r1
  have t2 : totSSpace D.2.2.1 ≤ 1048576 := by omega
  have HR2 := Lib.hid r2
  clear h hs r0 r1 r2
  generalize hv3 : D.2.2.2 = v3
  have HV3 := Lib.hid hv3
  clear hv3
  have B0 := Lib.hid (((Box.new w #[x0, x1, x2, x3, x4, .int .i64 v3] 67).alloc (.cells #[.slice none 0 0, .slice none 0 0, .slice none 0 0, .slice none 0 0, .slice none 0 0, .int .i64 0] 29)).alloc (.cells #[.slice none 0 0, .slice none 0 0, .slice none 0 0, .slice none 0 0, .slice none 0 0, .int .i64 0] 29))
  have C0 := Lib.hid ((Box.new (w.alloc (.cells #[x0, x1, x2, x3, x4, .int .i64 v3] 67)) #[.slice none 0 0, .slice none 0 0, .slice none 0 0, .slice none 0 0, .slice none 0 0, .int .i64 0] 29).alloc (.cells #[.slice none 0 0, .slice none 0 0, .slice none 0 0, .slice none 0 0, .slice none 0 0, .int .i64 0] 29))
  have D0 := Lib.hid (Box.new ((w.alloc (.cells #[x0, x1, x2, x3, x4, .int .i64 v3] 67)).alloc (.cells #[.slice none 0 0, .slice none 0 0, .slice none 0 0, .slice none 0 0, .slice none 0 0, .int .i64 0] 29)) #[.slice none 0 0, .slice none 0 0, .slice none 0 0, .slice none 0 0, .slice none 0 0, .int .i64 0] 29)
  simp only [World.size_alloc] at C0 D0
  have HB0 := Lib.hid (show Below w.heap.size w (((w.alloc (.cells #[x0, x1, x2, x3, x4, .int .i64 v3] 67)).alloc (.cells #[.slice none 0 0, .slice none 0 0, .slice none 0 0, .slice none 0 0, .slice none 0 0, .int .i64 0] 29)).alloc (.cells #[.slice none 0 0, .slice none 0 0, .slice none 0 0, .slice none 0 0, .slice none 0 0, .int .i64 0] 29)) from (((Below.refl _ _).alloc (Nat.le_refl _) _).alloc (by simp only [World.size_alloc]; omega) _).alloc (by simp only [World.size_alloc]; omega) _)
  have s0 : w.heap.size + 1 + 1 < (((w.alloc (.cells #[x0, x1, x2, x3, x4, .int .i64 v3] 67)).alloc (.cells #[.slice none 0 0, .slice none 0 0, .slice none 0 0, .slice none 0 0, .slice none 0 0, .int .i64 0] 29)).alloc (.cells #[.slice none 0 0, .slice none 0 0, .slice none 0 0, .slice none 0 0, .slice none 0 0, .int .i64 0] 29)).heap.size := by simp
  go_enter Try.func37, Try.ntmps37
  go_wp2_with fail
  have HP0 := Lib.hid HB0.out
  have DP0 := Lib.hid D0.out
  have CP0 := Lib.hid C0.out
  have BP0 := Lib.hid B0.out
  refine (toY_Pages (Ty.below_w HR0.out HP0.out) t0).mono ?_
  rintro e w1 ⟨y0, y1, f0, rfl, hm0, hg0, hb1⟩
  obtain ⟨Ay0_0, ny0_0, cy0_0, Ay0_1, ny0_1, cy0_1, hsh⟩ := tyPages_shM hm0
  simp only [List.cons.injEq, and_true] at hsh
  obtain ⟨rfl, rfl⟩ := hsh
  have HM0 := Lib.hid hm0
  have hs1 := hb1.size
  have HB1 := Lib.hid (HP0.out.trans (hb1.mono HP0.out.size))
  have B1 := Lib.hid (BP0.out.below hb1 BP0.out.lt)
  have C1 := Lib.hid (CP0.out.below hb1 CP0.out.lt)
  have D1 := Lib.hid (DP0.out.below hb1 DP0.out.lt)
  have FT0_1 := Lib.hid (Foot.refl w1 [w.heap.size + 1, w.heap.size + 1 + 1])
  have hG0 := Lib.hid hg0
  have hS1 := Lib.hid hs1
  clear hm0 hg0 hs1 hb1
  have b0 := B1.out.cell 0
  have c0 := C1.out.cell 0
  have d0 := D1.out.cell 0
  have fc0 := C1.out.frz 0
  have fd0 := D1.out.frz 0
  have b1 := B1.out.cell 1
  have c1 := C1.out.cell 1
  have d1 := D1.out.cell 1
  have fc1 := C1.out.frz 1
  have fd1 := D1.out.frz 1
  have b2 := B1.out.cell 2
  have c2 := C1.out.cell 2
  have d2 := D1.out.cell 2
  have fc2 := C1.out.frz 2
  have fd2 := D1.out.frz 2
  have b3 := B1.out.cell 3
  have c3 := C1.out.cell 3
  have d3 := D1.out.cell 3
  have fc3 := C1.out.frz 3
  have fd3 := D1.out.frz 3
  have b4 := B1.out.cell 4
  have c4 := C1.out.cell 4
  have d4 := D1.out.cell 4
  have fc4 := C1.out.frz 4
  have fd4 := D1.out.frz 4
  have b5 := B1.out.cell 5
  have c5 := C1.out.cell 5
  have d5 := D1.out.cell 5
  have fc5 := C1.out.frz 5
  have fd5 := D1.out.frz 5
  have lb := B1.out.lt
  have lc := C1.out.lt
  have ld := D1.out.lt
  simp at b0 c0 d0 b1 c1 d1 b2 c2 d2 b3 c3 d3 b4 c4 d4 b5 c5 d5
  go_wp2_with fail
  have HP1 := Lib.hid ((HB1.out.setCell (p := ⟨w.heap.size + 1 + 1, 0, none⟩) (by show w.heap.size ≤ w.heap.size + 1 + 1; omega) (.slice Ay0_0 ny0_0 cy0_0)).setCell (p := ⟨w.heap.size + 1 + 1, 1, none⟩) (by show w.heap.size ≤ w.heap.size + 1 + 1; omega) (.slice Ay0_1 ny0_1 cy0_1))
  have DP1 := Lib.hid ((D1.out.set 0 (.slice Ay0_0 ny0_0 cy0_0)).set 1 (.slice Ay0_1 ny0_1 cy0_1))
  have CP1 := Lib.hid ((C1.out.other (a := ⟨w.heap.size + 1 + 1, 0, none⟩) (by show w.heap.size + 1 ≠ w.heap.size + 1 + 1; omega) (.slice Ay0_0 ny0_0 cy0_0)).other (a := ⟨w.heap.size + 1 + 1, 1, none⟩) (by show w.heap.size + 1 ≠ w.heap.size + 1 + 1; omega) (.slice Ay0_1 ny0_1 cy0_1))
  have BP1 := Lib.hid ((B1.out.other (a := ⟨w.heap.size + 1 + 1, 0, none⟩) (by show w.heap.size ≠ w.heap.size + 1 + 1; omega) (.slice Ay0_0 ny0_0 cy0_0)).other (a := ⟨w.heap.size + 1 + 1, 1, none⟩) (by show w.heap.size ≠ w.heap.size + 1 + 1; omega) (.slice Ay0_1 ny0_1 cy0_1))
  have FP0_1 := Lib.hid ((FT0_1.out.set (b := w.heap.size + 1 + 1) (by simp) 0 (.slice Ay0_0 ny0_0 cy0_0)).set (b := w.heap.size + 1 + 1) (by simp) 1 (.slice Ay0_1 ny0_1 cy0_1))
  refine (toY_Pages (Ty.below_w HR1.out HP1.out) t1).mono ?_
  rintro e w2 ⟨y2, y3, f1, rfl, hm1, hg1, hb2⟩
  obtain ⟨Ay1_0, ny1_0, cy1_0, Ay1_1, ny1_1, cy1_1, hsh⟩ := tyPages_shM hm1
  simp only [List.cons.injEq, and_true] at hsh
  obtain ⟨rfl, rfl⟩ := hsh
  have HM1 := Lib.hid hm1
  have hs2 := hb2.size
  simp only [World.size_setCell] at hs2 hg1
  have HB2 := Lib.hid (HP1.out.trans (hb2.mono HP1.out.size))
  have B2 := Lib.hid (BP1.out.below hb2 BP1.out.lt)
  have C2 := Lib.hid (CP1.out.below hb2 CP1.out.lt)
  have D2 := Lib.hid (DP1.out.below hb2 DP1.out.lt)
  have FT0_2 := Lib.hid (FP0_1.out.trans (Foot.of_below hb2 [w.heap.size + 1, w.heap.size + 1 + 1]))
  have FT1_2 := Lib.hid (Foot.refl w2 [w.heap.size + 1, w.heap.size + 1 + 1])
  have hG1 := Lib.hid hg1
  have hS2 := Lib.hid hs2
  clear hm1 hg1 hs2 hb2 lb lc ld b0 c0 d0 fc0 fd0 b1 c1 d1 fc1 fd1 b2 c2 d2 fc2 fd2 b3 c3 d3 fc3 fd3 b4 c4 d4 fc4 fd4 b5 c5 d5 fc5 fd5
  have b0 := B2.out.cell 0
  have c0 := C2.out.cell 0
  have d0 := D2.out.cell 0
  have fc0 := C2.out.frz 0
  have fd0 := D2.out.frz 0
  have b1 := B2.out.cell 1
  have c1 := C2.out.cell 1
  have d1 := D2.out.cell 1
  have fc1 := C2.out.frz 1
  have fd1 := D2.out.frz 1
  have b2 := B2.out.cell 2
  have c2 := C2.out.cell 2
  have d2 := D2.out.cell 2
  have fc2 := C2.out.frz 2
  have fd2 := D2.out.frz 2
  have b3 := B2.out.cell 3
  have c3 := C2.out.cell 3
  have d3 := D2.out.cell 3
  have fc3 := C2.out.frz 3
  have fd3 := D2.out.frz 3
  have b4 := B2.out.cell 4
  have c4 := C2.out.cell 4
  have d4 := D2.out.cell 4
  have fc4 := C2.out.frz 4
  have fd4 := D2.out.frz 4
  have b5 := B2.out.cell 5
  have c5 := C2.out.cell 5
  have d5 := D2.out.cell 5
  have fc5 := C2.out.frz 5
  have fd5 := D2.out.frz 5
  have lb := B2.out.lt
  have lc := C2.out.lt
  have ld := D2.out.lt
  simp at b0 c0 d0 b1 c1 d1 b2 c2 d2 b3 c3 d3 b4 c4 d4 b5 c5 d5
  go_wp2_with fail
  have HP2 := Lib.hid ((HB2.out.setCell (p := ⟨w.heap.size + 1 + 1, 2, none⟩) (by show w.heap.size ≤ w.heap.size + 1 + 1; omega) (.slice Ay1_0 ny1_0 cy1_0)).setCell (p := ⟨w.heap.size + 1 + 1, 3, none⟩) (by show w.heap.size ≤ w.heap.size + 1 + 1; omega) (.slice Ay1_1 ny1_1 cy1_1))
  have DP2 := Lib.hid ((D2.out.set 2 (.slice Ay1_0 ny1_0 cy1_0)).set 3 (.slice Ay1_1 ny1_1 cy1_1))
  have CP2 := Lib.hid ((C2.out.other (a := ⟨w.heap.size + 1 + 1, 2, none⟩) (by show w.heap.size + 1 ≠ w.heap.size + 1 + 1; omega) (.slice Ay1_0 ny1_0 cy1_0)).other (a := ⟨w.heap.size + 1 + 1, 3, none⟩) (by show w.heap.size + 1 ≠ w.heap.size + 1 + 1; omega) (.slice Ay1_1 ny1_1 cy1_1))
  have BP2 := Lib.hid ((B2.out.other (a := ⟨w.heap.size + 1 + 1, 2, none⟩) (by show w.heap.size ≠ w.heap.size + 1 + 1; omega) (.slice Ay1_0 ny1_0 cy1_0)).other (a := ⟨w.heap.size + 1 + 1, 3, none⟩) (by show w.heap.size ≠ w.heap.size + 1 + 1; omega) (.slice Ay1_1 ny1_1 cy1_1))
  have FP0_2 := Lib.hid ((FT0_2.out.set (b := w.heap.size + 1 + 1) (by simp) 2 (.slice Ay1_0 ny1_0 cy1_0)).set (b := w.heap.size + 1 + 1) (by simp) 3 (.slice Ay1_1 ny1_1 cy1_1))
  have FP1_2 := Lib.hid ((FT1_2.out.set (b := w.heap.size + 1 + 1) (by simp) 2 (.slice Ay1_0 ny1_0 cy1_0)).set (b := w.heap.size + 1 + 1) (by simp) 3 (.slice Ay1_1 ny1_1 cy1_1))
  refine (toY_SSpace (Ty.below_w HR2.out HP2.out) t2).mono ?_
  rintro e w3 ⟨y4, f2, rfl, hm2, hg2, hb3⟩
  obtain ⟨Ay2, ny2, cy2, hsh⟩ := tySSpace_shM hm2
  simp only [List.cons.injEq, and_true] at hsh
  subst hsh
  have HM2 := Lib.hid hm2
  have hs3 := hb3.size
  simp only [World.size_setCell] at hs3 hg2
  have HB3 := Lib.hid (HP2.out.trans (hb3.mono HP2.out.size))
  have B3 := Lib.hid (BP2.out.below hb3 BP2.out.lt)
  have C3 := Lib.hid (CP2.out.below hb3 CP2.out.lt)
  have D3 := Lib.hid (DP2.out.below hb3 DP2.out.lt)
  have FT0_3 := Lib.hid (FP0_2.out.trans (Foot.of_below hb3 [w.heap.size + 1, w.heap.size + 1 + 1]))
  have FT1_3 := Lib.hid (FP1_2.out.trans (Foot.of_below hb3 [w.heap.size + 1, w.heap.size + 1 + 1]))
  have FT2_3 := Lib.hid (Foot.refl w3 [w.heap.size + 1, w.heap.size + 1 + 1])
  have hG2 := Lib.hid hg2
  have hS3 := Lib.hid hs3
  clear hm2 hg2 hs3 hb3 lb lc ld b0 c0 d0 fc0 fd0 b1 c1 d1 fc1 fd1 b2 c2 d2 fc2 fd2 b3 c3 d3 fc3 fd3 b4 c4 d4 fc4 fd4 b5 c5 d5 fc5 fd5
  have b0 := B3.out.cell 0
  have c0 := C3.out.cell 0
  have d0 := D3.out.cell 0
  have fc0 := C3.out.frz 0
  have fd0 := D3.out.frz 0
  have b1 := B3.out.cell 1
  have c1 := C3.out.cell 1
  have d1 := D3.out.cell 1
  have fc1 := C3.out.frz 1
  have fd1 := D3.out.frz 1
  have b2 := B3.out.cell 2
  have c2 := C3.out.cell 2
  have d2 := D3.out.cell 2
  have fc2 := C3.out.frz 2
  have fd2 := D3.out.frz 2
  have b3 := B3.out.cell 3
  have c3 := C3.out.cell 3
  have d3 := D3.out.cell 3
  have fc3 := C3.out.frz 3
  have fd3 := D3.out.frz 3
  have b4 := B3.out.cell 4
  have c4 := C3.out.cell 4
  have d4 := D3.out.cell 4
  have fc4 := C3.out.frz 4
  have fd4 := D3.out.frz 4
  have b5 := B3.out.cell 5
  have c5 := C3.out.cell 5
  have d5 := D3.out.cell 5
  have fc5 := C3.out.frz 5
  have fd5 := D3.out.frz 5
  have lb := B3.out.lt
  have lc := C3.out.lt
  have ld := D3.out.lt
  simp at b0 c0 d0 b1 c1 d1 b2 c2 d2 b3 c3 d3 b4 c4 d4 b5 c5 d5
  go_wp2_with fail
  refine bodyPost_ret (v := .agg #[.slice Ay0_0 ny0_0 cy0_0, .slice Ay0_1 ny0_1 cy0_1, .slice Ay1_0 ny1_0 cy1_0, .slice Ay1_1 ny1_1 cy1_1, .slice Ay2 ny2 cy2, .int .i64 v3]) (by simp [results, Try.results37, go_sem, c0, c1, c2, c3, c4, c5]) rfl ⟨_, _, _, _, _, _, f0 ++ (f1 ++ (f2 ++ ([]))), rfl, ?_, ?_, ((((((((HB3.out.setCell (by show w.heap.size ≤ w.heap.size + 1 + 1; omega) _).setCell (by show w.heap.size ≤ w.heap.size + 1 + 1; omega) _).setCell (by show w.heap.size ≤ w.heap.size + 1; omega) _).setCell (by show w.heap.size ≤ w.heap.size + 1; omega) _).setCell (by show w.heap.size ≤ w.heap.size + 1; omega) _).setCell (by show w.heap.size ≤ w.heap.size + 1; omega) _).setCell (by show w.heap.size ≤ w.heap.size + 1; omega) _).setCell (by show w.heap.size ≤ w.heap.size + 1; omega) _)⟩
  · rw [← HV3.out]
    have s0' := s0
    simp only [World.size_alloc] at s0'
    have hG0 := hG0.out
    simp only [World.size_alloc] at hG0
    replace hG0 := Lib.hid hG0
    have hS1 := hS1.out
    simp only [World.size_alloc] at hS1
    replace hS1 := Lib.hid hS1
    exact tyMem_Mmk (Ty.mf HM0.out ((((((((FT0_3.out.set (b := w.heap.size + 1 + 1) (by simp) _ _).set (b := w.heap.size + 1 + 1) (by simp) _ _).set (b := w.heap.size + 1) (by simp) _ _).set (b := w.heap.size + 1) (by simp) _ _).set (b := w.heap.size + 1) (by simp) _ _).set (b := w.heap.size + 1) (by simp) _ _).set (b := w.heap.size + 1) (by simp) _ _).set (b := w.heap.size + 1) (by simp) _ _) fun b hb => ⟨(hG0.out b hb).2, fun hx => by have h1 := hG0.out b hb; have q1 := hS1.out; have q2 := hS2.out; have q3 := hS3.out; simp only [List.mem_cons, List.not_mem_nil, or_false] at hx; omega⟩) (Ty.mf HM1.out ((((((((FT1_3.out.set (b := w.heap.size + 1 + 1) (by simp) _ _).set (b := w.heap.size + 1 + 1) (by simp) _ _).set (b := w.heap.size + 1) (by simp) _ _).set (b := w.heap.size + 1) (by simp) _ _).set (b := w.heap.size + 1) (by simp) _ _).set (b := w.heap.size + 1) (by simp) _ _).set (b := w.heap.size + 1) (by simp) _ _).set (b := w.heap.size + 1) (by simp) _ _) fun b hb => ⟨(hG1.out b hb).2, fun hx => by have h1 := hG1.out b hb; have q1 := hS1.out; have q2 := hS2.out; have q3 := hS3.out; simp only [List.mem_cons, List.not_mem_nil, or_false] at hx; omega⟩) (Ty.mf HM2.out ((((((((FT2_3.out.set (b := w.heap.size + 1 + 1) (by simp) _ _).set (b := w.heap.size + 1 + 1) (by simp) _ _).set (b := w.heap.size + 1) (by simp) _ _).set (b := w.heap.size + 1) (by simp) _ _).set (b := w.heap.size + 1) (by simp) _ _).set (b := w.heap.size + 1) (by simp) _ _).set (b := w.heap.size + 1) (by simp) _ _).set (b := w.heap.size + 1) (by simp) _ _) fun b hb => ⟨(hG2.out b hb).2, fun hx => by have h1 := hG2.out b hb; have q1 := hS1.out; have q2 := hS2.out; have q3 := hS3.out; simp only [List.mem_cons, List.not_mem_nil, or_false] at hx; omega⟩) (fun b h1 h2 => by have p1 := hG0.out b h1; have p2 := hG1.out b h2; have q1 := hS1.out; have q2 := hS2.out; have q3 := hS3.out; omega) (fun b h1 h2 => by have p1 := hG0.out b h1; have p2 := hG2.out b h2; have q1 := hS1.out; have q2 := hS2.out; have q3 := hS3.out; omega) (fun b h1 h2 => by have p1 := hG1.out b h1; have p2 := hG2.out b h2; have q1 := hS1.out; have q2 := hS2.out; have q3 := hS3.out; omega) 
  · intro b hb
    have hS1 := hS1.out
    simp only [World.size_alloc] at hS1
    replace hS1 := Lib.hid hS1
    have hG0 := hG0.out
    simp only [World.size_alloc] at hG0
    replace hG0 := Lib.hid hG0
    simp only [World.size_setCell]
    have q1 := hS1.out; have q2 := hS2.out; have q3 := hS3.out
    exact (List.mem_append.1 hb).elim (fun q0 => by have p := hG0.out b q0; omega) (fun p0 => (List.mem_append.1 p0).elim (fun q1 => by have p := hG1.out b q1; omega) (fun p1 => (List.mem_append.1 p1).elim (fun q2 => by have p := hG2.out b q2; omega) (fun p2 => absurd p2 List.not_mem_nil)))
set_option maxHeartbeats 2000000 in
theorem markY_Mem (k : Int) (h0 : 0 < k) (h1 : k + 8 * totMem D ≤ 8388609) (hm : tyMem.M w fp [x0, x1, x2, x3, x4, x5] D) (hf : ∀ b ∈ fp, b < w.heap.size) :
    Calls Try.prog 40 #[.agg #[x0, x1, x2, x3, x4, x5], .int .i64 k] w fun e w' => e = .returned (.int .i64 (k + cntMem D)) ∧ tyMem.M w' fp [x0, x1, x2, x3, x4, x5] (mksMem k D) ∧ Foot w w' fp := by
  obtain ⟨f0, f1, f2, rfl, r0, r1, r2, rfl, d0_1, d0_2, d1_2⟩ := tyMem_M hm
  unfold totMem at h1
  unfold cntMem
  have n0 := cntPages_le D.1
  have HM0_0 := Lib.hid r0
  have n1 := cntPages_le D.2.1
  have HM1_0 := Lib.hid r1
  have n2 := cntSSpace_le D.2.2.1
  have HM2_0 := Lib.hid r2
  have HF := Lib.hid hf
  have HD0_1 := Lib.hid d0_1
  have HD0_2 := Lib.hid d0_2
  have HD1_2 := Lib.hid d1_2
  clear hm hf r0 r1 r2 d0_1 d0_2 d1_2
  have X0 := Lib.hid (Box.new w #[x0, x1, x2, x3, x4, .int .i64 D.2.2.2] 29)
  have HT0 := Lib.hid (Foot.of_below (show Below w.heap.size w (w.alloc (.cells #[x0, x1, x2, x3, x4, .int .i64 D.2.2.2] 29)) from (Below.refl _ _).alloc (Nat.le_refl _) _) (f0 ++ (f1 ++ (f2 ++ ([])))))
  have HM0_1 := Lib.hid (tyPages.mframe HM0_0.out fun b hb => Below.heap_alloc w (.cells #[x0, x1, x2, x3, x4, .int .i64 D.2.2.2] 29) b (HF.out b (List.mem_append_left _ hb)))
  have HM1_1 := Lib.hid (tyPages.mframe HM1_0.out fun b hb => Below.heap_alloc w (.cells #[x0, x1, x2, x3, x4, .int .i64 D.2.2.2] 29) b (HF.out b (List.mem_append_right _ (List.mem_append_left _ hb))))
  have HM2_1 := Lib.hid (tySSpace.mframe HM2_0.out fun b hb => Below.heap_alloc w (.cells #[x0, x1, x2, x3, x4, .int .i64 D.2.2.2] 29) b (HF.out b (List.mem_append_right _ (List.mem_append_right _ (List.mem_append_left _ hb)))))
  go_enter Try.func40, Try.ntmps40
  have a0 := X0.out.cell 0
  have a1 := X0.out.cell 1
  have a2 := X0.out.cell 2
  have a3 := X0.out.cell 3
  have a4 := X0.out.cell 4
  have a5 := X0.out.cell 5
  have la := X0.out.lt
  simp at a0 a1 a2 a3 a4 a5
  go_wp2_with fail
  refine (markY_Pages (k) (by omega) (by omega) HM0_1.out (fun b hb => Nat.lt_of_lt_of_le (HF.out b (List.mem_append_left _ hb)) HT0.out.size)).mono ?_
  rintro e w1 ⟨rfl, hm0, ht1⟩
  have HN1_1 := Lib.hid (tyPages.mframe HM1_1.out fun b hb => ht1.block b (Nat.lt_of_lt_of_le (HF.out b (List.mem_append_right _ (List.mem_append_left _ hb))) HT0.out.size) (fun hb' => HD0_1.out b hb' hb))
  have HN2_1 := Lib.hid (tySSpace.mframe HM2_1.out fun b hb => ht1.block b (Nat.lt_of_lt_of_le (HF.out b (List.mem_append_right _ (List.mem_append_right _ (List.mem_append_left _ hb)))) HT0.out.size) (fun hb' => HD0_2.out b hb' hb))
  have HN0_1 := Lib.hid hm0
  have HT1 := Lib.hid (HT0.out.trans (ht1.sub fun b hb => (List.mem_append_left _ hb)))
  have X1 := Lib.hid (ht1.box X0.out fun hb => by have := HF.out w.heap.size (List.mem_append_left _ hb); omega)
  clear hm0 ht1 la a0 a1 a2 a3 a4 a5
  have a0 := X1.out.cell 0
  have a1 := X1.out.cell 1
  have a2 := X1.out.cell 2
  have a3 := X1.out.cell 3
  have a4 := X1.out.cell 4
  have a5 := X1.out.cell 5
  have la := X1.out.lt
  simp at a0 a1 a2 a3 a4 a5
  go_wp2_with fail
  refine (markY_Pages (k + cntPages D.1) (by omega) (by omega) HN1_1.out (fun b hb => Nat.lt_of_lt_of_le (HF.out b (List.mem_append_right _ (List.mem_append_left _ hb))) HT1.out.size)).mono ?_
  rintro e w2 ⟨rfl, hm1, ht2⟩
  have HN0_2 := Lib.hid (tyPages.mframe HN0_1.out fun b hb => ht2.block b (Nat.lt_of_lt_of_le (HF.out b (List.mem_append_left _ hb)) HT1.out.size) (fun hb' => HD0_1.out b hb hb'))
  have HN2_2 := Lib.hid (tySSpace.mframe HN2_1.out fun b hb => ht2.block b (Nat.lt_of_lt_of_le (HF.out b (List.mem_append_right _ (List.mem_append_right _ (List.mem_append_left _ hb)))) HT1.out.size) (fun hb' => HD1_2.out b hb' hb))
  have HN1_2 := Lib.hid hm1
  have HT2 := Lib.hid (HT1.out.trans (ht2.sub fun b hb => (List.mem_append_right _ (List.mem_append_left _ hb))))
  have X2 := Lib.hid (ht2.box X1.out fun hb => by have := HF.out w.heap.size (List.mem_append_right _ (List.mem_append_left _ hb)); omega)
  clear hm1 ht2 la a0 a1 a2 a3 a4 a5
  have a0 := X2.out.cell 0
  have a1 := X2.out.cell 1
  have a2 := X2.out.cell 2
  have a3 := X2.out.cell 3
  have a4 := X2.out.cell 4
  have a5 := X2.out.cell 5
  have la := X2.out.lt
  simp at a0 a1 a2 a3 a4 a5
  go_wp2_with fail
  refine (markY_SSpace (k + cntPages D.1 + cntPages D.2.1) (by omega) (by omega) HN2_2.out (fun b hb => Nat.lt_of_lt_of_le (HF.out b (List.mem_append_right _ (List.mem_append_right _ (List.mem_append_left _ hb)))) HT2.out.size)).mono ?_
  rintro e w3 ⟨rfl, hm2, ht3⟩
  have HN0_3 := Lib.hid (tyPages.mframe HN0_2.out fun b hb => ht3.block b (Nat.lt_of_lt_of_le (HF.out b (List.mem_append_left _ hb)) HT2.out.size) (fun hb' => HD0_2.out b hb hb'))
  have HN1_3 := Lib.hid (tyPages.mframe HN1_2.out fun b hb => ht3.block b (Nat.lt_of_lt_of_le (HF.out b (List.mem_append_right _ (List.mem_append_left _ hb))) HT2.out.size) (fun hb' => HD1_2.out b hb hb'))
  have HN2_3 := Lib.hid hm2
  have HT3 := Lib.hid (HT2.out.trans (ht3.sub fun b hb => (List.mem_append_right _ (List.mem_append_right _ (List.mem_append_left _ hb)))))
  have X3 := Lib.hid (ht3.box X2.out fun hb => by have := HF.out w.heap.size (List.mem_append_right _ (List.mem_append_right _ (List.mem_append_left _ hb))); omega)
  clear hm2 ht3 la a0 a1 a2 a3 a4 a5
  go_wp2_with fail
  go_ret
  refine ⟨ret_int (by omega), ?_, HT3.out⟩
  exact tyMem_Mmk (D := mksMem k D) HN0_3.out HN1_3.out HN2_3.out HD0_1.out HD0_2.out HD1_2.out 
set_option maxHeartbeats 2000000 in
theorem heldY_Mem (k : Int) (h0 : 0 < k) (h1 : k + 8 * totMem D ≤ 8388609) (h : tyMem.R w hi [x0, x1, x2, x3, x4, x5] (mksMem k D)) :
    Calls Try.prog 41 #[.agg #[x0, x1, x2, x3, x4, x5], .int .i64 k] w fun e w' => e = .returned (.int .i64 (k + cntMem D)) ∧ Below w.heap.size w w' := by
  obtain ⟨r0, r1, r2, rfl⟩ := tyMem_R h
  unfold totMem at h1
  unfold cntMem
  have n0 := cntPages_le D.1
  have HR0 := Lib.hid r0
  have n1 := cntPages_le D.2.1
  have HR1 := Lib.hid r1
  have n2 := cntSSpace_le D.2.2.1
  have HR2 := Lib.hid r2
  clear h r0 r1 r2
  dsimp only [mksMem]
  have X0 := Lib.hid (Box.new w #[x0, x1, x2, x3, x4, .int .i64 D.2.2.2] 29)
  have HB0 := Lib.hid (show Below w.heap.size w (w.alloc (.cells #[x0, x1, x2, x3, x4, .int .i64 D.2.2.2] 29)) from (Below.refl _ _).alloc (Nat.le_refl _) _)
  go_enter Try.func41, Try.ntmps41
  have a0 := X0.out.cell 0
  have a1 := X0.out.cell 1
  have a2 := X0.out.cell 2
  have a3 := X0.out.cell 3
  have a4 := X0.out.cell 4
  have a5 := X0.out.cell 5
  have la := X0.out.lt
  simp at a0 a1 a2 a3 a4 a5
  go_wp2_with fail
  refine (heldY_Pages (D := D.1) (k) (by omega) (by omega) (Ty.below_w HR0.out HB0.out)).mono ?_
  rintro e w1 ⟨rfl, hb1⟩
  have HB1 := Lib.hid (HB0.out.trans (hb1.mono HB0.out.size))
  have X1 := Lib.hid (X0.out.below hb1 X0.out.lt)
  clear hb1 la a0 a1 a2 a3 a4 a5
  have a0 := X1.out.cell 0
  have a1 := X1.out.cell 1
  have a2 := X1.out.cell 2
  have a3 := X1.out.cell 3
  have a4 := X1.out.cell 4
  have a5 := X1.out.cell 5
  have la := X1.out.lt
  simp at a0 a1 a2 a3 a4 a5
  go_wp2_with fail
  refine (heldY_Pages (D := D.2.1) (k + cntPages D.1) (by omega) (by omega) (Ty.below_w HR1.out HB1.out)).mono ?_
  rintro e w2 ⟨rfl, hb2⟩
  have HB2 := Lib.hid (HB1.out.trans (hb2.mono HB1.out.size))
  have X2 := Lib.hid (X1.out.below hb2 X1.out.lt)
  clear hb2 la a0 a1 a2 a3 a4 a5
  have a0 := X2.out.cell 0
  have a1 := X2.out.cell 1
  have a2 := X2.out.cell 2
  have a3 := X2.out.cell 3
  have a4 := X2.out.cell 4
  have a5 := X2.out.cell 5
  have la := X2.out.lt
  simp at a0 a1 a2 a3 a4 a5
  go_wp2_with fail
  refine (heldY_SSpace (D := D.2.2.1) (k + cntPages D.1 + cntPages D.2.1) (by omega) (by omega) (Ty.below_w HR2.out HB2.out)).mono ?_
  rintro e w3 ⟨rfl, hb3⟩
  have HB3 := Lib.hid (HB2.out.trans (hb3.mono HB2.out.size))
  have X3 := Lib.hid (X2.out.below hb3 X2.out.lt)
  clear hb3 la a0 a1 a2 a3 a4 a5
  go_wp2_with fail
  go_ret
  exact ⟨ret_int (by omega), HB3.out⟩
end
end Go.Proofs.Ytfmbadhiflaldaa
