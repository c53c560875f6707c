/-
  The walk of FnSigsTurn on drawn arguments.
-/
import Derived.Test.YtncinocpdeokgaaGDraw3
import Derived.Test.YtncinocpdeokgaaTqSigs
import Derived.Test.YtncinocpdeokgaaGSs
namespace Go.Proofs.Ytncinocpdeokgaa
open Go.RowKit

section
variable {A : Option Addr} {n c : Nat} {w : World}
set_option maxHeartbeats 4000000 in
set_option maxRecDepth 100000 in
theorem dSigsTurn_walk (hSnd : GSnd 37) (hc : Code w A n) (hcap : n ≤ c) (hcap2 : c ≤ maxLen) : Calls Try.prog 13 #[.slice A n c] w fun e w' => e = .returned (.bool true) ∧ Below w.heap.size w w' := by
  have hn := hc.1
  unfold maxLen at hn
  by_cases hbig : (1048576 : Int) < n
  · go_enter Try.func13, Try.ntmps13
    go_wp2_with fail
    go_ret
    exact ⟨rfl, Below.refl _ _⟩
  have HCODE := Lib.hid hc
  clear hc
  have HSND := Lib.hid hSnd
  clear hSnd
  have HW0 := Lib.hid (Below.refl w.heap.size w)
  go_enter Try.func13, Try.ntmps13
  have HA0 := Lib.hid (show Below w.heap.size w w from (Below.refl _ _))
  go_wp2_with fail
  refine (dDrawSigsNext_any HCODE.out hcap hcap2).mono ?_
  rintro e w1 ⟨y00, y01, y02, D0, rfl, hr0, hs0, hb1⟩
  have HC1 := Lib.hid (HA0.out.trans (hb1.mono HA0.out.size))
  have HW1 := Lib.hid (HW0.out.trans (HC1.out.mono HW0.out.size))
  clear hb1
  obtain ⟨A00, n00, c00, A01, n01, c01, A02, n02, c02, hcs⟩ := tySigs_sh hr0
  simp only [List.cons.injEq, and_true] at hcs
  obtain ⟨rfl, rfl, rfl⟩ := hcs
  obtain ⟨H0, B0, L0⟩ := D0
  have HS0 := Lib.hid hs0
  have HR0_1 := Lib.hid (hr0)
  clear hr0 hs0
  have HA1 := Lib.hid (show Below w1.heap.size w1 (w1.alloc (.cells #[.slice A00 n00 c00, .slice A01 n01 c01, .slice A02 n02 c02] 26)) from ((Below.refl _ _).alloc (Nat.le_refl _) _))
  go_wp2_with fail
  refine (HSND.out 2 (Ty.below_w HR0_1.out HA1.out) HS0.out).mono ?_
  rintro e w2 ⟨a0, a1, a2, fp0, rfl, hm0, hf0, hsm0, hb2⟩
  have HC2 := Lib.hid (HA1.out.trans (hb2.mono HA1.out.size))
  have HW2 := Lib.hid (HW1.out.trans (HC2.out.mono HW1.out.size))
  have HR0_2 := Lib.hid (Ty.below_w HR0_1.out HC2.out)
  have C0_2 := Lib.hid ((Box.new w1 #[.slice A00 n00 c00, .slice A01 n01 c01, .slice A02 n02 c02] 26).below hb2 (by simp only [World.size_alloc]; omega))
  clear hb2
  have HSA := Lib.hid hsm0
  clear hsm0
  obtain ⟨E00, m00, o00, E01, m01, o01, E02, m02, o02, hcs⟩ := tySigs_shM hm0
  simp only [List.cons.injEq, and_true] at hcs
  obtain ⟨rfl, rfl, rfl⟩ := hcs
  have HQ0_2 := Lib.hid (tySigs.mr hm0 fun b hb => (hf0 b hb).2)
  clear hm0 hf0
  have HA2 := Lib.hid (show Below w2.heap.size w2 (w2.alloc (.cells #[.slice E00 m00 o00, .slice E01 m01 o01, .slice E02 m02 o02] 26)) from ((Below.refl _ _).alloc (Nat.le_refl _) _))
  have c0_c0 := C0_2.out.cell 0
  have c0_c1 := C0_2.out.cell 1
  have c0_c2 := C0_2.out.cell 2
  simp at c0_c0 c0_c1 c0_c2
  have c0_l := C0_2.out.lt
  go_wp2_with fail
  refine (sigsSnd_s 2 (Ty.below_w HR0_2.out HA2.out) HS0.out).mono ?_
  rintro e w3 ⟨b0, b1, b2, rfl, hm1, hb3⟩
  clear c0_c0 c0_c1 c0_c2 c0_l
  have HC3 := Lib.hid (HA2.out.trans (hb3.mono HA2.out.size))
  have HW3 := Lib.hid (HW2.out.trans (HC3.out.mono HW2.out.size))
  have HR0_3 := Lib.hid (Ty.below_w HR0_2.out HC3.out)
  have HQ0_3 := Lib.hid (Ty.below_w HQ0_2.out HC3.out)
  have C0_3 := Lib.hid (C0_2.out.below HC3.out C0_2.out.lt)
  have X_3 := Lib.hid ((Box.new w2 #[.slice E00 m00 o00, .slice E01 m01 o01, .slice E02 m02 o02] 26).below hb3 (by simp only [World.size_alloc]; omega))
  clear hb3
  obtain ⟨F10, m10, o10, F11, m11, o11, F12, m12, o12, hcs⟩ := tySigs_sh hm1
  simp only [List.cons.injEq, and_true] at hcs
  obtain ⟨rfl, rfl, rfl⟩ := hcs
  have HQ1_3 := Lib.hid (hm1)
  clear hm1
  have hbb : (sndB (H0, B0, L0) 2 != sndB (H0, B0, L0) 2) = false := by simp
  have HA3 := Lib.hid (show Below w3.heap.size w3 (w3.alloc (.cells #[.slice F10 m10 o10, .slice F11 m11 o11, .slice F12 m12 o12] 26)) from ((Below.refl _ _).alloc (Nat.le_refl _) _))
  have c0_c0 := C0_3.out.cell 0
  have c0_c1 := C0_3.out.cell 1
  have c0_c2 := C0_3.out.cell 2
  have x_c0 := X_3.out.cell 0
  have x_c1 := X_3.out.cell 1
  have x_c2 := X_3.out.cell 2
  simp at c0_c0 c0_c1 c0_c2 x_c0 x_c1 x_c2
  have c0_l := C0_3.out.lt
  have x_l := X_3.out.lt
  go_wp2_with fail
  refine (qdSigs_t (Ty.below_w HQ0_3.out HA3.out) (Ty.below_w HQ1_3.out HA3.out)).mono ?_
  rintro e w4 ⟨rfl, hb4⟩
  clear c0_c0 c0_c1 c0_c2 x_c0 x_c1 x_c2 c0_l x_l
  have HC4 := Lib.hid (HA3.out.trans (hb4.mono HA3.out.size))
  have HW4 := Lib.hid (HW3.out.trans (HC4.out.mono HW3.out.size))
  have HR0_4 := Lib.hid (Ty.below_w HR0_3.out HC4.out)
  have HQ0_4 := Lib.hid (Ty.below_w HQ0_3.out HC4.out)
  have HQ1_4 := Lib.hid (Ty.below_w HQ1_3.out HC4.out)
  have C0_4 := Lib.hid (C0_3.out.below HC4.out C0_3.out.lt)
  have X_4 := Lib.hid (X_3.out.below HC4.out X_3.out.lt)
  have Y_4 := Lib.hid ((Box.new w3 #[.slice F10 m10 o10, .slice F11 m11 o11, .slice F12 m12 o12] 26).below hb4 (by simp only [World.size_alloc]; omega))
  clear hb4
  clear hbb
  by_cases h0 : sndB (H0, B0, L0) 2 = true
  case neg =>
    have h0' : sndB (H0, B0, L0) 2 = false := by simpa using h0
    rw [h0']
    clear h0
    have HA4 := Lib.hid (show Below w4.heap.size w4 w4 from (Below.refl _ _))
    have c0_c0 := C0_4.out.cell 0
    have c0_c1 := C0_4.out.cell 1
    have c0_c2 := C0_4.out.cell 2
    have x_c0 := X_4.out.cell 0
    have x_c1 := X_4.out.cell 1
    have x_c2 := X_4.out.cell 2
    have y_c0 := Y_4.out.cell 0
    have y_c1 := Y_4.out.cell 1
    have y_c2 := Y_4.out.cell 2
    simp at c0_c0 c0_c1 c0_c2 x_c0 x_c1 x_c2 y_c0 y_c1 y_c2
    have c0_l := C0_4.out.lt
    have x_l := X_4.out.lt
    have y_l := Y_4.out.lt
    go_wp2_with fail
    refine (qdSigs_t (Ty.below_w HQ0_4.out HA4.out) (Ty.below_w HQ1_4.out HA4.out)).mono ?_
    rintro e w5 ⟨rfl, hb5⟩
    clear c0_c0 c0_c1 c0_c2 x_c0 x_c1 x_c2 y_c0 y_c1 y_c2 c0_l x_l y_l
    have HC5 := Lib.hid (HA4.out.trans (hb5.mono HA4.out.size))
    have HW5 := Lib.hid (HW4.out.trans (HC5.out.mono HW4.out.size))
    have HR0_5 := Lib.hid (Ty.below_w HR0_4.out HC5.out)
    have HQ0_5 := Lib.hid (Ty.below_w HQ0_4.out HC5.out)
    have HQ1_5 := Lib.hid (Ty.below_w HQ1_4.out HC5.out)
    have C0_5 := Lib.hid (C0_4.out.below HC5.out C0_4.out.lt)
    have X_5 := Lib.hid (X_4.out.below HC5.out X_4.out.lt)
    have Y_5 := Lib.hid (Y_4.out.below HC5.out Y_4.out.lt)
    clear hb5
    have HA5 := Lib.hid (show Below w5.heap.size w5 w5 from (Below.refl _ _))
    have c0_c0 := C0_5.out.cell 0
    have c0_c1 := C0_5.out.cell 1
    have c0_c2 := C0_5.out.cell 2
    have x_c0 := X_5.out.cell 0
    have x_c1 := X_5.out.cell 1
    have x_c2 := X_5.out.cell 2
    have y_c0 := Y_5.out.cell 0
    have y_c1 := Y_5.out.cell 1
    have y_c2 := Y_5.out.cell 2
    simp at c0_c0 c0_c1 c0_c2 x_c0 x_c1 x_c2 y_c0 y_c1 y_c2
    have c0_l := C0_5.out.lt
    have x_l := X_5.out.lt
    have y_l := Y_5.out.lt
    go_wp2_with fail
    go_ret
    exact ⟨rfl, HW5.out⟩
  have HF := Lib.hid h0
  have HF2 := Lib.hid (snd_to h0 (show inB 3 1 8 = true by decide))
  have HSA := Lib.hid (show smallSigs (sndH (H0, B0, L0) 2, B0, L0) by have h := HSA.out; rw [snd_yes h0] at h; exact h)
  have HQ0_4 := Lib.hid (by have h := HQ0_4.out; rw [snd_yes h0] at h; exact h)
  rw [h0]
  clear h0
  generalize sndH (H0, B0, L0) 2 = H1 at HF2 HSA HQ0_4
  have HA4 := Lib.hid (show Below w4.heap.size w4 w4 from (Below.refl _ _))
  have c0_c0 := C0_4.out.cell 0
  have c0_c1 := C0_4.out.cell 1
  have c0_c2 := C0_4.out.cell 2
  have x_c0 := X_4.out.cell 0
  have x_c1 := X_4.out.cell 1
  have x_c2 := X_4.out.cell 2
  have y_c0 := Y_4.out.cell 0
  have y_c1 := Y_4.out.cell 1
  have y_c2 := Y_4.out.cell 2
  simp at c0_c0 c0_c1 c0_c2 x_c0 x_c1 x_c2 y_c0 y_c1 y_c2
  have c0_l := C0_4.out.lt
  have x_l := X_4.out.lt
  have y_l := Y_4.out.lt
  go_wp2_with fail
  refine (HSND.out 3 (Ty.below_w HQ0_4.out HA4.out) HSA.out).mono ?_
  rintro e w5 ⟨p20, p21, p22, fp2, rfl, hm2, hf2, hsm2, hb5⟩
  clear c0_c0 c0_c1 c0_c2 x_c0 x_c1 x_c2 y_c0 y_c1 y_c2 c0_l x_l y_l
  have HC5 := Lib.hid (HA4.out.trans (hb5.mono HA4.out.size))
  have HW5 := Lib.hid (HW4.out.trans (HC5.out.mono HW4.out.size))
  have HR0_5 := Lib.hid (Ty.below_w HR0_4.out HC5.out)
  have HQ0_5 := Lib.hid (Ty.below_w HQ0_4.out HC5.out)
  have HQ1_5 := Lib.hid (Ty.below_w HQ1_4.out HC5.out)
  have C0_5 := Lib.hid (C0_4.out.below HC5.out C0_4.out.lt)
  have X_5 := Lib.hid (X_4.out.below HC5.out X_4.out.lt)
  have Y_5 := Lib.hid (Y_4.out.below HC5.out Y_4.out.lt)
  clear hb5
  rw [HF2.out]
  rw [snd_yes HF2.out] at hm2 hsm2
  have HSS2 := Lib.hid hsm2
  clear hsm2
  obtain ⟨G20, m20, o20, G21, m21, o21, G22, m22, o22, hcs⟩ := tySigs_shM hm2
  simp only [List.cons.injEq, and_true] at hcs
  obtain ⟨rfl, rfl, rfl⟩ := hcs
  have HQ2_5 := Lib.hid (tySigs.mr hm2 fun b hb => (hf2 b hb).2)
  clear hm2 hf2
  have HF3 := Lib.hid (snd_to HF2.out (show inB 2 1 8 = true by decide))
  have HG := Lib.hid (turn_go HF2.out)
  have HI := Lib.hid (sig_iff.1 (snd_ok HF2.out))
  generalize sndH (H1, B0, L0) 3 = H2 at HF3 HG HI HSS2 HQ2_5
  have HA5 := Lib.hid (show Below w5.heap.size w5 (w5.alloc (.cells #[.slice G20 m20 o20, .slice G21 m21 o21, .slice G22 m22 o22] 26)) from ((Below.refl _ _).alloc (Nat.le_refl _) _))
  have c0_c0 := C0_5.out.cell 0
  have c0_c1 := C0_5.out.cell 1
  have c0_c2 := C0_5.out.cell 2
  have x_c0 := X_5.out.cell 0
  have x_c1 := X_5.out.cell 1
  have x_c2 := X_5.out.cell 2
  have y_c0 := Y_5.out.cell 0
  have y_c1 := Y_5.out.cell 1
  have y_c2 := Y_5.out.cell 2
  simp at c0_c0 c0_c1 c0_c2 x_c0 x_c1 x_c2 y_c0 y_c1 y_c2
  have c0_l := C0_5.out.lt
  have x_l := X_5.out.lt
  have y_l := Y_5.out.lt
  go_wp2_with fail
  refine (HSND.out 2 (Ty.below_w HQ2_5.out HA5.out) HSS2.out).mono ?_
  rintro e w6 ⟨p30, p31, p32, fp3, rfl, hm3, hf3, hsm3, hb6⟩
  clear c0_c0 c0_c1 c0_c2 x_c0 x_c1 x_c2 y_c0 y_c1 y_c2 c0_l x_l y_l
  have HC6 := Lib.hid (HA5.out.trans (hb6.mono HA5.out.size))
  have HW6 := Lib.hid (HW5.out.trans (HC6.out.mono HW5.out.size))
  have HR0_6 := Lib.hid (Ty.below_w HR0_5.out HC6.out)
  have HQ0_6 := Lib.hid (Ty.below_w HQ0_5.out HC6.out)
  have HQ1_6 := Lib.hid (Ty.below_w HQ1_5.out HC6.out)
  have HQ2_6 := Lib.hid (Ty.below_w HQ2_5.out HC6.out)
  have C0_6 := Lib.hid (C0_5.out.below HC6.out C0_5.out.lt)
  have X_6 := Lib.hid (X_5.out.below HC6.out X_5.out.lt)
  have Y_6 := Lib.hid (Y_5.out.below HC6.out Y_5.out.lt)
  have Z_6 := Lib.hid ((Box.new w5 #[.slice G20 m20 o20, .slice G21 m21 o21, .slice G22 m22 o22] 26).below hb6 (by simp only [World.size_alloc]; omega))
  clear hb6
  rw [HF3.out]
  rw [snd_yes HF3.out] at hm3 hsm3
  have HSS3 := Lib.hid hsm3
  clear hsm3
  obtain ⟨G30, m30, o30, G31, m31, o31, G32, m32, o32, hcs⟩ := tySigs_shM hm3
  simp only [List.cons.injEq, and_true] at hcs
  obtain ⟨rfl, rfl, rfl⟩ := hcs
  have HQ3_6 := Lib.hid (tySigs.mr hm3 fun b hb => (hf3 b hb).2)
  clear hm3 hf3
  have HT := Lib.hid (turn_stop HF3.out)
  have HJ := Lib.hid (sig_iff.1 (snd_ok HF3.out))
  generalize sndH (H2, B0, L0) 2 = H3 at HT HJ HSS3 HQ3_6
  obtain ⟨bx0, ax0, _, bx1, ax1, _, bx2, ax2, _, hx0, hx1, hx2, hx⟩ := read8 HQ2_6.out HI.out.1 HI.out.2.1 HI.out.2.2.1
  simp only [Value.slice.injEq] at hx0 hx1 hx2
  obtain ⟨rfl, rfl, rfl⟩ := hx0
  obtain ⟨rfl, rfl, rfl⟩ := hx1
  obtain ⟨rfl, rfl, rfl⟩ := hx2
  have EA_6 := Lib.hid hx
  clear hx
  obtain ⟨bz0, az0, _, bz1, az1, _, bz2, az2, _, hx0, hx1, hx2, hx⟩ := read8 HQ3_6.out HJ.out.1 HJ.out.2.1 HJ.out.2.2.1
  simp only [Value.slice.injEq] at hx0 hx1 hx2
  obtain ⟨rfl, rfl, rfl⟩ := hx0
  obtain ⟨rfl, rfl, rfl⟩ := hx1
  obtain ⟨rfl, rfl, rfl⟩ := hx2
  have EB_6 := Lib.hid hx
  clear hx
  have r0 := EA_6.out.c0 1 (by omega)
  have r1 := EA_6.out.c0 5 (by omega)
  have r2 := EB_6.out.c0 2 (by omega)
  dsimp only at r0 r1 r2
  rw [HG.out.1] at r0
  rw [HG.out.2] at r1
  rw [HT.out] at r2
  have HA6 := Lib.hid (show Below w6.heap.size w6 (w6.alloc (.cells #[.slice (some ⟨bz0, az0, none⟩) 8 o30, .slice (some ⟨bz1, az1, none⟩) 8 o31, .slice (some ⟨bz2, az2, none⟩) 8 o32] 26)) from ((Below.refl _ _).alloc (Nat.le_refl _) _))
  replace r0 := (kc HA6.out _ _ EA_6.out.h0).trans r0
  replace r1 := (kc HA6.out _ _ EA_6.out.h0).trans r1
  replace r2 := (kc HA6.out _ _ EB_6.out.h0).trans r2
  have c0_c0 := C0_6.out.cell 0
  have c0_c1 := C0_6.out.cell 1
  have c0_c2 := C0_6.out.cell 2
  have x_c0 := X_6.out.cell 0
  have x_c1 := X_6.out.cell 1
  have x_c2 := X_6.out.cell 2
  have y_c0 := Y_6.out.cell 0
  have y_c1 := Y_6.out.cell 1
  have y_c2 := Y_6.out.cell 2
  have z_c0 := Z_6.out.cell 0
  have z_c1 := Z_6.out.cell 1
  have z_c2 := Z_6.out.cell 2
  simp at c0_c0 c0_c1 c0_c2 x_c0 x_c1 x_c2 y_c0 y_c1 y_c2 z_c0 z_c1 z_c2
  have c0_l := C0_6.out.lt
  have x_l := X_6.out.lt
  have y_l := Y_6.out.lt
  have z_l := Z_6.out.lt
  go_wp2_with fail
  go_ret
  exact ⟨rfl, HW6.out.trans (HA6.out.mono HW6.out.size)⟩
end
end Go.Proofs.Ytncinocpdeokgaa
