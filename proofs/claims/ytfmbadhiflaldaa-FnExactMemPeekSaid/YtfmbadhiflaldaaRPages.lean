/-
  The laws' helpers on Pages.
-/
import Derived.Test.YtfmbadhiflaldaaYString
import Derived.Test.YtfmbadhiflaldaaYInt
namespace Go.Proofs.Ytfmbadhiflaldaa
open Go.RowKit

def tyPages : Ty (List ByteArray × List Int) := (Ty.pair tySString tySInt)
def totPages (D : List ByteArray × List Int) : Nat := totSString D.1 + totSInt D.2
def wfPages (D : List ByteArray × List Int) : Prop := wfSString D.1 ∧ wfSInt D.2
def cntPages (D : List ByteArray × List Int) : Int := cntSString D.1 + cntSInt D.2
def mksPages (k : Int) (D : List ByteArray × List Int) : List ByteArray × List Int := (mksSString (k) D.1, mksSInt (k + cntSString D.1) D.2)
theorem cntPages_le (D : List ByteArray × List Int) : 0 ≤ cntPages D ∧ cntPages D ≤ 8 * (totPages D : Int) := by
  have h0 := cntSString_le D.1
  have h1 := cntSInt_le D.2
  unfold cntPages totPages
  omega
theorem totPages_mk (k : Int) (D : List ByteArray × List Int) : totPages (mksPages k D) = totPages D := by simp only [totPages, mksPages, totSInt_mk, totSString_mk]
theorem cntPages_mk (k : Int) (D : List ByteArray × List Int) : cntPages (mksPages k D) = cntPages D := by simp only [cntPages, mksPages, cntSInt_mk, cntSString_mk]
theorem tyPages_sh {w : World} {hi : Nat} {cs : List Value} {D : List ByteArray × List Int} (h : tyPages.R w hi cs D) : ∃ (A_0 : Option Addr) (n_0 : Nat) (c_0 : Nat) (A_1 : Option Addr) (n_1 : Nat) (c_1 : Nat), cs = [.slice A_0 n_0 c_0, .slice A_1 n_1 c_1] := by
  obtain ⟨c0, r0, e0, h0, h1⟩ := h
  obtain ⟨A0, n0, c0, rfl⟩ := tySString_sh h0
  obtain ⟨A1, n1, c1, rfl⟩ := tySInt_sh h1
  subst e0
  exact ⟨_, _, _, _, _, _, rfl⟩
theorem tyPages_shM {w : World} {fp : List Nat} {cs : List Value} {D : List ByteArray × List Int} (h : tyPages.M w fp cs D) : ∃ (A_0 : Option Addr) (n_0 : Nat) (c_0 : Nat) (A_1 : Option Addr) (n_1 : Nat) (c_1 : Nat), cs = [.slice A_0 n_0 c_0, .slice A_1 n_1 c_1] := by
  obtain ⟨f0, F0, c0, r0, ef0, e0, d0, h0, h1⟩ := h
  obtain ⟨A0, n0, c0, rfl⟩ := tySString_shM h0
  obtain ⟨A1, n1, c1, rfl⟩ := tySInt_shM h1
  subst e0
  exact ⟨_, _, _, _, _, _, rfl⟩
theorem tyPages_R {w : World} {hi : Nat} {D : List ByteArray × List Int} {x0 x1 : Value} (h : tyPages.R w hi [x0, x1] D) : tySString.R w hi [x0] D.1 ∧ tySInt.R w hi [x1] D.2 := by
  obtain ⟨c0, r0, e0, h0, h1⟩ := h
  obtain ⟨A0, n0, c0, rfl⟩ := tySString_sh h0
  obtain ⟨A1, n1, c1, rfl⟩ := tySInt_sh h1
  simp only [List.cons_append, List.nil_append, List.cons.injEq, and_true] at e0
  obtain ⟨rfl, rfl⟩ := e0
  exact ⟨h0, h1⟩
theorem tyPages_Rmk {w : World} {hi : Nat} {D : List ByteArray × List Int} {x0 x1 : Value} (h0 : tySString.R w hi [x0] D.1) (h1 : tySInt.R w hi [x1] D.2) : tyPages.R w hi [x0, x1] D := ⟨[x0], [x1], rfl, h0, h1⟩
theorem tyPages_M {w : World} {fp : List Nat} {D : List ByteArray × List Int} {x0 x1 : Value} (h : tyPages.M w fp [x0, x1] D) : ∃ f0 f1, fp = f0 ++ (f1) ∧ tySString.M w f0 [x0] D.1 ∧ tySInt.M w f1 [x1] D.2 ∧ (∀ b ∈ f0, b ∉ f1) := by
  obtain ⟨f0, F0, c0, r0, ef0, e0, d0, h0, h1⟩ := h
  obtain ⟨A0, n0, c0, rfl⟩ := tySString_shM h0
  obtain ⟨A1, n1, c1, rfl⟩ := tySInt_shM h1
  subst ef0
  simp only [List.cons_append, List.nil_append, List.cons.injEq, and_true] at e0
  obtain ⟨rfl, rfl⟩ := e0
  exact ⟨f0, _, rfl, h0, h1, fun b h1 h2 => d0 b h1 h2⟩
theorem tyPages_Mmk {w : World} {D : List ByteArray × List Int} {x0 x1 : Value} {f0 f1 : List Nat} (h0 : tySString.M w f0 [x0] D.1) (h1 : tySInt.M w f1 [x1] D.2) (d0_1 : ∀ b ∈ f0, b ∉ f1) : tyPages.M w (f0 ++ (f1)) [x0, x1] D := ⟨f0, f1, [x0], [x1], rfl, rfl, fun b h1 h2 => d0_1 b h1 h2, h0, h1⟩
section
variable {w : World} {hi hi2 : Nat} {D : List ByteArray × List Int} {fp : List Nat} {x0 y0 x1 y1 : Value}
theorem szY_Pages (left : Int) (hl : 0 ≤ left) (hl2 : left ≤ 1048576) (hw : wfPages D) (h : tyPages.R w hi [x0, x1] D) :
    Calls Try.prog 73 #[.agg #[x0, x1], .int .i64 left] w fun e w' => ∃ z : Int, e = .returned (.int .i64 z) ∧ (0 ≤ z → (totPages D : Int) + z ≤ left) ∧ -1 ≤ z ∧ Below w.heap.size w w' := by
  obtain ⟨r0, r1⟩ := tyPages_R h
  unfold wfPages at hw
  obtain ⟨u0, u1⟩ := hw
  unfold totPages
  have HR0 := Lib.hid r0
  have HR1 := Lib.hid r1
  clear h r0 r1
  have X0 := Lib.hid (Box.new w #[x0, x1] 64)
  have HB0 := Lib.hid (show Below w.heap.size w (w.alloc (.cells #[x0, x1] 64)) from (Below.refl _ _).alloc (Nat.le_refl _) _)
  go_enter Try.func73, Try.ntmps73
  have a0 := X0.out.cell 0
  have a1 := X0.out.cell 1
  have la := X0.out.lt
  simp at a0 a1
  go_wp2_with fail
  refine (szY_SString left hl hl2 u0 (Ty.below_w HR0.out HB0.out)).mono ?_
  rintro e w1 ⟨z0, rfl, hz0, hy0, hb1⟩
  have HB1 := Lib.hid (HB0.out.trans (hb1.mono HB0.out.size))
  have X1 := Lib.hid (X0.out.below hb1 X0.out.lt)
  clear hb1 la a0 a1
  by_cases hp0 : 0 ≤ z0
  case neg =>
    clear hz0
    go_wp2
    go_ret
    exact ⟨_, rfl, fun h => by omega, by omega, HB1.out⟩
  have v0z := hz0 hp0
  have k0 : z0 ≤ 1048576 := by omega
  clear hz0
  have a0 := X1.out.cell 0
  have a1 := X1.out.cell 1
  have la := X1.out.lt
  simp at a0 a1
  go_wp2_with fail
  refine (szY_SInt z0 hp0 k0 u1 (Ty.below_w HR1.out HB1.out)).mono ?_
  rintro e w2 ⟨z1, rfl, hz1, hy1, hb2⟩
  have HB2 := Lib.hid (HB1.out.trans (hb2.mono HB1.out.size))
  have X2 := Lib.hid (X1.out.below hb2 X1.out.lt)
  clear hb2 la a0 a1
  by_cases hp1 : 0 ≤ z1
  case neg =>
    clear hz1
    go_wp2
    go_ret
    exact ⟨_, rfl, fun h => by omega, by omega, HB2.out⟩
  have v1z := hz1 hp1
  have k1 : z1 ≤ 1048576 := by omega
  clear hz1
  go_wp2_with fail
  go_ret
  exact ⟨_, rfl, fun _ => by omega, by omega, HB2.out⟩
set_option maxHeartbeats 1000000 in
theorem eqY_Pages (h : tyPages.R w hi [x0, x1] D) (h2 : tyPages.R w hi2 [y0, y1] D) :
    Calls Try.prog 77 #[.agg #[x0, x1], .agg #[y0, y1]] w fun e w' => e = .returned (.bool true) ∧ Below w.heap.size w w' := by
  obtain ⟨r0, r1⟩ := tyPages_R h
  obtain ⟨r0b, r1b⟩ := tyPages_R h2
  have HR0 := Lib.hid r0
  have HS0 := Lib.hid r0b
  have HR1 := Lib.hid r1
  have HS1 := Lib.hid r1b
  clear h h2 r0 r0b r1 r1b
  have X0 := Lib.hid ((Box.new w #[x0, x1] 26).alloc (.cells #[y0, y1] 26))
  have Y0 := Lib.hid (Box.new (w.alloc (.cells #[x0, x1] 26)) #[y0, y1] 26)
  simp only [World.size_alloc] at Y0
  have HB0 := Lib.hid (show Below w.heap.size w ((w.alloc (.cells #[x0, x1] 26)).alloc (.cells #[y0, y1] 26)) from ((Below.refl _ _).alloc (Nat.le_refl _) _).alloc (by simp only [World.size_alloc]; omega) _)
  go_enter Try.func77, Try.ntmps77
  have a0 := X0.out.cell 0
  have b0 := Y0.out.cell 0
  have a1 := X0.out.cell 1
  have b1 := Y0.out.cell 1
  have la := X0.out.lt
  have lb := Y0.out.lt
  simp at a0 b0 a1 b1
  go_wp2_with fail
  refine (eqY_SString (Ty.below_w HR0.out HB0.out) (Ty.below_w HS0.out HB0.out)).mono ?_
  rintro e w1 ⟨rfl, hb1⟩
  have HB1 := Lib.hid (HB0.out.trans (hb1.mono HB0.out.size))
  have X1 := Lib.hid (X0.out.below hb1 X0.out.lt)
  have Y1 := Lib.hid (Y0.out.below hb1 Y0.out.lt)
  clear hb1 la lb a0 b0 a1 b1
  have a0 := X1.out.cell 0
  have b0 := Y1.out.cell 0
  have a1 := X1.out.cell 1
  have b1 := Y1.out.cell 1
  have la := X1.out.lt
  have lb := Y1.out.lt
  simp at a0 b0 a1 b1
  go_wp2_with fail
  refine (eqY_SInt (Ty.below_w HR1.out HB1.out) (Ty.below_w HS1.out HB1.out)).mono ?_
  rintro e w2 ⟨rfl, hb2⟩
  have HB2 := Lib.hid (HB1.out.trans (hb2.mono HB1.out.size))
  have X2 := Lib.hid (X1.out.below hb2 X1.out.lt)
  have Y2 := Lib.hid (Y1.out.below hb2 Y1.out.lt)
  clear hb2 la lb a0 b0 a1 b1
  have a0 := X2.out.cell 0
  have b0 := Y2.out.cell 0
  have a1 := X2.out.cell 1
  have b1 := Y2.out.cell 1
  have la := X2.out.lt
  have lb := Y2.out.lt
  simp at a0 b0 a1 b1
  go_wp2_with fail
  go_ret
  exact ⟨rfl, HB2.out⟩
set_option maxHeartbeats 2000000 in
theorem toY_Pages (h : tyPages.R w hi [x0, x1] D) (hs : totPages D ≤ 1048576) :
    Calls Try.prog 75 #[.agg #[x0, x1]] w fun e w' => ∃ y0 y1 fp, e = .returned (.agg #[y0, y1]) ∧ tyPages.M w' fp [y0, y1] D ∧ (∀ b ∈ fp, w.heap.size ≤ b ∧ b < w'.heap.size) ∧ Below w.heap.size w w' := by
  obtain ⟨r0, r1⟩ := tyPages_R h
  unfold totPages at hs
  have t0 : totSString D.1 ≤ 1048576 := by omega
  have HR0 := Lib.hid r0
  have t1 : totSInt D.2 ≤ 1048576 := by omega
  have HR1 := Lib.hid r1
  clear h hs r0 r1
  have B0 := Lib.hid (((Box.new w #[x0, x1] 64).alloc (.cells #[.slice none 0 0, .slice none 0 0] 26)).alloc (.cells #[.slice none 0 0, .slice none 0 0] 26))
  have C0 := Lib.hid ((Box.new (w.alloc (.cells #[x0, x1] 64)) #[.slice none 0 0, .slice none 0 0] 26).alloc (.cells #[.slice none 0 0, .slice none 0 0] 26))
  have D0 := Lib.hid (Box.new ((w.alloc (.cells #[x0, x1] 64)).alloc (.cells #[.slice none 0 0, .slice none 0 0] 26)) #[.slice none 0 0, .slice none 0 0] 26)
  simp only [World.size_alloc] at C0 D0
  have HB0 := Lib.hid (show Below w.heap.size w (((w.alloc (.cells #[x0, x1] 64)).alloc (.cells #[.slice none 0 0, .slice none 0 0] 26)).alloc (.cells #[.slice none 0 0, .slice none 0 0] 26)) from (((Below.refl _ _).alloc (Nat.le_refl _) _).alloc (by simp only [World.size_alloc]; omega) _).alloc (by simp only [World.size_alloc]; omega) _)
  have s0 : w.heap.size + 1 + 1 < (((w.alloc (.cells #[x0, x1] 64)).alloc (.cells #[.slice none 0 0, .slice none 0 0] 26)).alloc (.cells #[.slice none 0 0, .slice none 0 0] 26)).heap.size := by simp
  go_enter Try.func75, Try.ntmps75
  go_wp2_with fail
  have HP0 := Lib.hid HB0.out
  have DP0 := Lib.hid D0.out
  have CP0 := Lib.hid C0.out
  have BP0 := Lib.hid B0.out
  refine (toY_SString (Ty.below_w HR0.out HP0.out) t0).mono ?_
  rintro e w1 ⟨y0, f0, rfl, hm0, hg0, hb1⟩
  obtain ⟨Ay0, ny0, cy0, hsh⟩ := tySString_shM hm0
  simp only [List.cons.injEq, and_true] at hsh
  subst hsh
  have HM0 := Lib.hid hm0
  have hs1 := hb1.size
  have HB1 := Lib.hid (HP0.out.trans (hb1.mono HP0.out.size))
  have B1 := Lib.hid (BP0.out.below hb1 BP0.out.lt)
  have C1 := Lib.hid (CP0.out.below hb1 CP0.out.lt)
  have D1 := Lib.hid (DP0.out.below hb1 DP0.out.lt)
  have FT0_1 := Lib.hid (Foot.refl w1 [w.heap.size + 1, w.heap.size + 1 + 1])
  have hG0 := Lib.hid hg0
  have hS1 := Lib.hid hs1
  clear hm0 hg0 hs1 hb1
  have b0 := B1.out.cell 0
  have c0 := C1.out.cell 0
  have d0 := D1.out.cell 0
  have fc0 := C1.out.frz 0
  have fd0 := D1.out.frz 0
  have b1 := B1.out.cell 1
  have c1 := C1.out.cell 1
  have d1 := D1.out.cell 1
  have fc1 := C1.out.frz 1
  have fd1 := D1.out.frz 1
  have lb := B1.out.lt
  have lc := C1.out.lt
  have ld := D1.out.lt
  simp at b0 c0 d0 b1 c1 d1
  go_wp2_with fail
  have HP1 := Lib.hid (HB1.out.setCell (p := ⟨w.heap.size + 1 + 1, 0, none⟩) (by show w.heap.size ≤ w.heap.size + 1 + 1; omega) (.slice Ay0 ny0 cy0))
  have DP1 := Lib.hid (D1.out.set 0 (.slice Ay0 ny0 cy0))
  have CP1 := Lib.hid (C1.out.other (a := ⟨w.heap.size + 1 + 1, 0, none⟩) (by show w.heap.size + 1 ≠ w.heap.size + 1 + 1; omega) (.slice Ay0 ny0 cy0))
  have BP1 := Lib.hid (B1.out.other (a := ⟨w.heap.size + 1 + 1, 0, none⟩) (by show w.heap.size ≠ w.heap.size + 1 + 1; omega) (.slice Ay0 ny0 cy0))
  have FP0_1 := Lib.hid (FT0_1.out.set (b := w.heap.size + 1 + 1) (by simp) 0 (.slice Ay0 ny0 cy0))
  refine (toY_SInt (Ty.below_w HR1.out HP1.out) t1).mono ?_
  rintro e w2 ⟨y1, f1, rfl, hm1, hg1, hb2⟩
  obtain ⟨Ay1, ny1, cy1, hsh⟩ := tySInt_shM hm1
  simp only [List.cons.injEq, and_true] at hsh
  subst hsh
  have HM1 := Lib.hid hm1
  have hs2 := hb2.size
  simp only [World.size_setCell] at hs2 hg1
  have HB2 := Lib.hid (HP1.out.trans (hb2.mono HP1.out.size))
  have B2 := Lib.hid (BP1.out.below hb2 BP1.out.lt)
  have C2 := Lib.hid (CP1.out.below hb2 CP1.out.lt)
  have D2 := Lib.hid (DP1.out.below hb2 DP1.out.lt)
  have FT0_2 := Lib.hid (FP0_1.out.trans (Foot.of_below hb2 [w.heap.size + 1, w.heap.size + 1 + 1]))
  have FT1_2 := Lib.hid (Foot.refl w2 [w.heap.size + 1, w.heap.size + 1 + 1])
  have hG1 := Lib.hid hg1
  have hS2 := Lib.hid hs2
  clear hm1 hg1 hs2 hb2 lb lc ld b0 c0 d0 fc0 fd0 b1 c1 d1 fc1 fd1
  have b0 := B2.out.cell 0
  have c0 := C2.out.cell 0
  have d0 := D2.out.cell 0
  have fc0 := C2.out.frz 0
  have fd0 := D2.out.frz 0
  have b1 := B2.out.cell 1
  have c1 := C2.out.cell 1
  have d1 := D2.out.cell 1
  have fc1 := C2.out.frz 1
  have fd1 := D2.out.frz 1
  have lb := B2.out.lt
  have lc := C2.out.lt
  have ld := D2.out.lt
  simp at b0 c0 d0 b1 c1 d1
  go_wp2_with fail
  refine bodyPost_ret (v := .agg #[.slice Ay0 ny0 cy0, .slice Ay1 ny1 cy1]) (by simp [results, Try.results75, go_sem, c0, c1]) rfl ⟨_, _, f0 ++ (f1), rfl, ?_, ?_, (((HB2.out.setCell (by show w.heap.size ≤ w.heap.size + 1 + 1; omega) _).setCell (by show w.heap.size ≤ w.heap.size + 1; omega) _).setCell (by show w.heap.size ≤ w.heap.size + 1; omega) _)⟩
  · skip
    have s0' := s0
    simp only [World.size_alloc] at s0'
    have hG0 := hG0.out
    simp only [World.size_alloc] at hG0
    replace hG0 := Lib.hid hG0
    have hS1 := hS1.out
    simp only [World.size_alloc] at hS1
    replace hS1 := Lib.hid hS1
    exact tyPages_Mmk (Ty.mf HM0.out (((FT0_2.out.set (b := w.heap.size + 1 + 1) (by simp) _ _).set (b := w.heap.size + 1) (by simp) _ _).set (b := w.heap.size + 1) (by simp) _ _) fun b hb => ⟨(hG0.out b hb).2, fun hx => by have h1 := hG0.out b hb; have q1 := hS1.out; have q2 := hS2.out; simp only [List.mem_cons, List.not_mem_nil, or_false] at hx; omega⟩) (Ty.mf HM1.out (((FT1_2.out.set (b := w.heap.size + 1 + 1) (by simp) _ _).set (b := w.heap.size + 1) (by simp) _ _).set (b := w.heap.size + 1) (by simp) _ _) fun b hb => ⟨(hG1.out b hb).2, fun hx => by have h1 := hG1.out b hb; have q1 := hS1.out; have q2 := hS2.out; simp only [List.mem_cons, List.not_mem_nil, or_false] at hx; omega⟩) (fun b h1 h2 => by have p1 := hG0.out b h1; have p2 := hG1.out b h2; have q1 := hS1.out; have q2 := hS2.out; omega) 
  · intro b hb
    have hS1 := hS1.out
    simp only [World.size_alloc] at hS1
    replace hS1 := Lib.hid hS1
    have hG0 := hG0.out
    simp only [World.size_alloc] at hG0
    replace hG0 := Lib.hid hG0
    simp only [World.size_setCell]
    have q1 := hS1.out; have q2 := hS2.out
    exact (List.mem_append.1 hb).elim (fun q0 => by have p := hG0.out b q0; omega) (fun p0 => by have p := hG1.out b p0; omega)
set_option maxHeartbeats 2000000 in
theorem markY_Pages (k : Int) (h0 : 0 < k) (h1 : k + 8 * totPages D ≤ 8388609) (hm : tyPages.M w fp [x0, x1] D) (hf : ∀ b ∈ fp, b < w.heap.size) :
    Calls Try.prog 82 #[.agg #[x0, x1], .int .i64 k] w fun e w' => e = .returned (.int .i64 (k + cntPages D)) ∧ tyPages.M w' fp [x0, x1] (mksPages k D) ∧ Foot w w' fp := by
  obtain ⟨f0, f1, rfl, r0, r1, d0_1⟩ := tyPages_M hm
  unfold totPages at h1
  unfold cntPages
  have n0 := cntSString_le D.1
  have HM0_0 := Lib.hid r0
  have n1 := cntSInt_le D.2
  have HM1_0 := Lib.hid r1
  have HF := Lib.hid hf
  have HD0_1 := Lib.hid d0_1
  clear hm hf r0 r1 d0_1
  have X0 := Lib.hid (Box.new w #[x0, x1] 26)
  have HT0 := Lib.hid (Foot.of_below (show Below w.heap.size w (w.alloc (.cells #[x0, x1] 26)) from (Below.refl _ _).alloc (Nat.le_refl _) _) (f0 ++ (f1)))
  have HM0_1 := Lib.hid (tySString.mframe HM0_0.out fun b hb => Below.heap_alloc w (.cells #[x0, x1] 26) b (HF.out b (List.mem_append_left _ hb)))
  have HM1_1 := Lib.hid (tySInt.mframe HM1_0.out fun b hb => Below.heap_alloc w (.cells #[x0, x1] 26) b (HF.out b (List.mem_append_right _ hb)))
  go_enter Try.func82, Try.ntmps82
  have a0 := X0.out.cell 0
  have a1 := X0.out.cell 1
  have la := X0.out.lt
  simp at a0 a1
  go_wp2_with fail
  refine (markY_SString (k) (by omega) (by omega) HM0_1.out (fun b hb => Nat.lt_of_lt_of_le (HF.out b (List.mem_append_left _ hb)) HT0.out.size)).mono ?_
  rintro e w1 ⟨rfl, hm0, ht1⟩
  have HN1_1 := Lib.hid (tySInt.mframe HM1_1.out fun b hb => ht1.block b (Nat.lt_of_lt_of_le (HF.out b (List.mem_append_right _ hb)) HT0.out.size) (fun hb' => HD0_1.out b hb' hb))
  have HN0_1 := Lib.hid hm0
  have HT1 := Lib.hid (HT0.out.trans (ht1.sub fun b hb => (List.mem_append_left _ hb)))
  have X1 := Lib.hid (ht1.box X0.out fun hb => by have := HF.out w.heap.size (List.mem_append_left _ hb); omega)
  clear hm0 ht1 la a0 a1
  have a0 := X1.out.cell 0
  have a1 := X1.out.cell 1
  have la := X1.out.lt
  simp at a0 a1
  go_wp2_with fail
  refine (markY_SInt (k + cntSString D.1) (by omega) (by omega) HN1_1.out (fun b hb => Nat.lt_of_lt_of_le (HF.out b (List.mem_append_right _ hb)) HT1.out.size)).mono ?_
  rintro e w2 ⟨rfl, hm1, ht2⟩
  have HN0_2 := Lib.hid (tySString.mframe HN0_1.out fun b hb => ht2.block b (Nat.lt_of_lt_of_le (HF.out b (List.mem_append_left _ hb)) HT1.out.size) (fun hb' => HD0_1.out b hb hb'))
  have HN1_2 := Lib.hid hm1
  have HT2 := Lib.hid (HT1.out.trans (ht2.sub fun b hb => (List.mem_append_right _ hb)))
  have X2 := Lib.hid (ht2.box X1.out fun hb => by have := HF.out w.heap.size (List.mem_append_right _ hb); omega)
  clear hm1 ht2 la a0 a1
  go_wp2_with fail
  go_ret
  refine ⟨ret_int (by omega), ?_, HT2.out⟩
  exact tyPages_Mmk (D := mksPages k D) HN0_2.out HN1_2.out HD0_1.out 
set_option maxHeartbeats 2000000 in
theorem heldY_Pages (k : Int) (h0 : 0 < k) (h1 : k + 8 * totPages D ≤ 8388609) (h : tyPages.R w hi [x0, x1] (mksPages k D)) :
    Calls Try.prog 84 #[.agg #[x0, x1], .int .i64 k] w fun e w' => e = .returned (.int .i64 (k + cntPages D)) ∧ Below w.heap.size w w' := by
  obtain ⟨r0, r1⟩ := tyPages_R h
  unfold totPages at h1
  unfold cntPages
  have n0 := cntSString_le D.1
  have HR0 := Lib.hid r0
  have n1 := cntSInt_le D.2
  have HR1 := Lib.hid r1
  clear h r0 r1
  have X0 := Lib.hid (Box.new w #[x0, x1] 26)
  have HB0 := Lib.hid (show Below w.heap.size w (w.alloc (.cells #[x0, x1] 26)) from (Below.refl _ _).alloc (Nat.le_refl _) _)
  go_enter Try.func84, Try.ntmps84
  have a0 := X0.out.cell 0
  have a1 := X0.out.cell 1
  have la := X0.out.lt
  simp at a0 a1
  go_wp2_with fail
  refine (heldY_SString (D := D.1) (k) (by omega) (by omega) (Ty.below_w HR0.out HB0.out)).mono ?_
  rintro e w1 ⟨rfl, hb1⟩
  have HB1 := Lib.hid (HB0.out.trans (hb1.mono HB0.out.size))
  have X1 := Lib.hid (X0.out.below hb1 X0.out.lt)
  clear hb1 la a0 a1
  have a0 := X1.out.cell 0
  have a1 := X1.out.cell 1
  have la := X1.out.lt
  simp at a0 a1
  go_wp2_with fail
  refine (heldY_SInt (D := D.2) (k + cntSString D.1) (by omega) (by omega) (Ty.below_w HR1.out HB1.out)).mono ?_
  rintro e w2 ⟨rfl, hb2⟩
  have HB2 := Lib.hid (HB1.out.trans (hb2.mono HB1.out.size))
  have X2 := Lib.hid (X1.out.below hb2 X1.out.lt)
  clear hb2 la a0 a1
  go_wp2_with fail
  go_ret
  exact ⟨ret_int (by omega), HB2.out⟩
end
end Go.Proofs.Ytfmbadhiflaldaa
