/-
  The walk of FnSigsSend on drawn arguments.
-/
import Derived.Test.YtncinocpdeokgaaGDraw3
import Derived.Test.YtncinocpdeokgaaTqSigs
import Derived.Test.YtncinocpdeokgaaGSs
namespace Go.Proofs.Ytncinocpdeokgaa
open Go.RowKit

section
variable {A : Option Addr} {n c : Nat} {w : World}
set_option maxHeartbeats 4000000 in
set_option maxRecDepth 100000 in
theorem dSigsSend_walk (hOk : GOk 26) (hSnd : GSnd 37) (hc : Code w A n) (hcap : n ≤ c) (hcap2 : c ≤ maxLen) : Calls Try.prog 7 #[.slice A n c] w fun e w' => e = .returned (.bool true) ∧ Below w.heap.size w w' := by
  have hn := hc.1
  unfold maxLen at hn
  by_cases hbig : (1048576 : Int) < n
  · go_enter Try.func7, Try.ntmps7
    go_wp2_with fail
    go_ret
    exact ⟨rfl, Below.refl _ _⟩
  have HCODE := Lib.hid hc
  clear hc
  have HOK := Lib.hid hOk
  clear hOk
  have HSND := Lib.hid hSnd
  clear hSnd
  have HW0 := Lib.hid (Below.refl w.heap.size w)
  go_enter Try.func7, Try.ntmps7
  have HA0 := Lib.hid (show Below w.heap.size w w from (Below.refl _ _))
  go_wp2_with fail
  refine (dDrawSigsSend_any HCODE.out hcap hcap2).mono ?_
  rintro e w1 ⟨y00, y01, y02, D0, n', rfl, nl, nu, hr0, hs0, hb1⟩
  have HC1 := Lib.hid (HA0.out.trans (hb1.mono HA0.out.size))
  have HW1 := Lib.hid (HW0.out.trans (HC1.out.mono HW0.out.size))
  clear hb1
  obtain ⟨A00, n00, c00, A01, n01, c01, A02, n02, c02, hcs⟩ := tySigs_sh hr0
  simp only [List.cons.injEq, and_true] at hcs
  obtain ⟨rfl, rfl, rfl⟩ := hcs
  obtain ⟨H0, B0, L0⟩ := D0
  have HS0 := Lib.hid hs0
  have HR0_1 := Lib.hid (hr0)
  clear hr0 hs0
  have HA1 := Lib.hid (show Below w1.heap.size w1 (w1.alloc (.cells #[.slice A00 n00 c00, .slice A01 n01 c01, .slice A02 n02 c02] 26)) from ((Below.refl _ _).alloc (Nat.le_refl _) _))
  go_wp2_with fail
  refine (HSND.out n' (Ty.below_w HR0_1.out HA1.out) HS0.out).mono ?_
  rintro e w2 ⟨a0, a1, a2, fp0, rfl, hm0, hf0, hsm0, hb2⟩
  have HC2 := Lib.hid (HA1.out.trans (hb2.mono HA1.out.size))
  have HW2 := Lib.hid (HW1.out.trans (HC2.out.mono HW1.out.size))
  have HR0_2 := Lib.hid (Ty.below_w HR0_1.out HC2.out)
  have C0_2 := Lib.hid ((Box.new w1 #[.slice A00 n00 c00, .slice A01 n01 c01, .slice A02 n02 c02] 26).below hb2 (by simp only [World.size_alloc]; omega))
  clear hb2
  have HSA := Lib.hid hsm0
  clear hsm0
  obtain ⟨E00, m00, o00, E01, m01, o01, E02, m02, o02, hcs⟩ := tySigs_shM hm0
  simp only [List.cons.injEq, and_true] at hcs
  obtain ⟨rfl, rfl, rfl⟩ := hcs
  have HQ0_2 := Lib.hid (tySigs.mr hm0 fun b hb => (hf0 b hb).2)
  clear hm0 hf0
  have HA2 := Lib.hid (show Below w2.heap.size w2 (w2.alloc (.cells #[.slice E00 m00 o00, .slice E01 m01 o01, .slice E02 m02 o02] 26)) from ((Below.refl _ _).alloc (Nat.le_refl _) _))
  have c0_c0 := C0_2.out.cell 0
  have c0_c1 := C0_2.out.cell 1
  have c0_c2 := C0_2.out.cell 2
  simp at c0_c0 c0_c1 c0_c2
  have c0_l := C0_2.out.lt
  go_wp2_with fail
  refine (sigsSnd_s n' (Ty.below_w HR0_2.out HA2.out) HS0.out).mono ?_
  rintro e w3 ⟨b0, b1, b2, rfl, hm1, hb3⟩
  clear c0_c0 c0_c1 c0_c2 c0_l
  have HC3 := Lib.hid (HA2.out.trans (hb3.mono HA2.out.size))
  have HW3 := Lib.hid (HW2.out.trans (HC3.out.mono HW2.out.size))
  have HR0_3 := Lib.hid (Ty.below_w HR0_2.out HC3.out)
  have HQ0_3 := Lib.hid (Ty.below_w HQ0_2.out HC3.out)
  have C0_3 := Lib.hid (C0_2.out.below HC3.out C0_2.out.lt)
  have X_3 := Lib.hid ((Box.new w2 #[.slice E00 m00 o00, .slice E01 m01 o01, .slice E02 m02 o02] 26).below hb3 (by simp only [World.size_alloc]; omega))
  clear hb3
  obtain ⟨F10, m10, o10, F11, m11, o11, F12, m12, o12, hcs⟩ := tySigs_sh hm1
  simp only [List.cons.injEq, and_true] at hcs
  obtain ⟨rfl, rfl, rfl⟩ := hcs
  have HQ1_3 := Lib.hid (hm1)
  clear hm1
  have HA3 := Lib.hid (show Below w3.heap.size w3 (w3.alloc (.cells #[.slice F10 m10 o10, .slice F11 m11 o11, .slice F12 m12 o12] 26)) from ((Below.refl _ _).alloc (Nat.le_refl _) _))
  have c0_c0 := C0_3.out.cell 0
  have c0_c1 := C0_3.out.cell 1
  have c0_c2 := C0_3.out.cell 2
  have x_c0 := X_3.out.cell 0
  have x_c1 := X_3.out.cell 1
  have x_c2 := X_3.out.cell 2
  simp at c0_c0 c0_c1 c0_c2 x_c0 x_c1 x_c2
  have c0_l := C0_3.out.lt
  have x_l := X_3.out.lt
  go_wp2_with fail
  refine (qdSigs_t (Ty.below_w HQ0_3.out HA3.out) (Ty.below_w HQ1_3.out HA3.out)).mono ?_
  rintro e w4 ⟨rfl, hb4⟩
  clear c0_c0 c0_c1 c0_c2 x_c0 x_c1 x_c2 c0_l x_l
  have HC4 := Lib.hid (HA3.out.trans (hb4.mono HA3.out.size))
  have HW4 := Lib.hid (HW3.out.trans (HC4.out.mono HW3.out.size))
  have HR0_4 := Lib.hid (Ty.below_w HR0_3.out HC4.out)
  have HQ0_4 := Lib.hid (Ty.below_w HQ0_3.out HC4.out)
  have HQ1_4 := Lib.hid (Ty.below_w HQ1_3.out HC4.out)
  have C0_4 := Lib.hid (C0_3.out.below HC4.out C0_3.out.lt)
  have X_4 := Lib.hid (X_3.out.below HC4.out X_3.out.lt)
  have Y_4 := Lib.hid ((Box.new w3 #[.slice F10 m10 o10, .slice F11 m11 o11, .slice F12 m12 o12] 26).below hb4 (by simp only [World.size_alloc]; omega))
  clear hb4
  have hbb : (sndB (H0, B0, L0) n' == sndB (H0, B0, L0) n') = true := by simp
  by_cases h0 : sndB (H0, B0, L0) n' = true
  case neg =>
    have h0' : sndB (H0, B0, L0) n' = false := by simpa using h0
    rw [h0']
    clear h0
    have HA4 := Lib.hid (show Below w4.heap.size w4 w4 from (Below.refl _ _))
    have c0_c0 := C0_4.out.cell 0
    have c0_c1 := C0_4.out.cell 1
    have c0_c2 := C0_4.out.cell 2
    have x_c0 := X_4.out.cell 0
    have x_c1 := X_4.out.cell 1
    have x_c2 := X_4.out.cell 2
    have y_c0 := Y_4.out.cell 0
    have y_c1 := Y_4.out.cell 1
    have y_c2 := Y_4.out.cell 2
    simp at c0_c0 c0_c1 c0_c2 x_c0 x_c1 x_c2 y_c0 y_c1 y_c2
    have c0_l := C0_4.out.lt
    have x_l := X_4.out.lt
    have y_l := Y_4.out.lt
    go_wp2_with fail
    go_ret
    exact ⟨rfl, HW4.out⟩
  clear hbb
  obtain ⟨hs0, _, k, hk, hkn, hkt⟩ := snd_at h0
  have HF2 := Lib.hid (snd_again h0).1
  have HYY := Lib.hid (snd_again h0).2
  have HSG := Lib.hid (sig_iff.1 hs0)
  have HSO := Lib.hid (sig_iff.1 (snd_ok h0))
  have HOK1 := Lib.hid (snd_ok h0)
  have HHERE := Lib.hid (fun hne => snd_here h0 hkt hne)
  have HD1 := Lib.hid (does_one (L := L0) hkt)
  have HSA := Lib.hid (show smallSigs (sndH (H0, B0, L0) n', B0, L0) by have h := HSA.out; rw [snd_yes h0] at h; exact h)
  have HQ0_4 := Lib.hid (by have h := HQ0_4.out; rw [snd_yes h0] at h; exact h)
  rw [h0]
  clear h0 hs0
  generalize sndH (H0, B0, L0) n' = H1 at HF2 HYY HSO HOK1 HHERE HSA HQ0_4
  have hk1 : IntKind.i64.wrap (n' - 1) = (k : Int) := by rw [IntWalk.i64_in _ (by omega)]; omega
  have hk3 : (0 : Int) ≤ k := by omega
  have hk4 : (k : Int) < 8 := by omega
  have HKN := Lib.hid hkn
  clear hkn hkt nl nu
  have HA4 := Lib.hid (show Below w4.heap.size w4 w4 from (Below.refl _ _))
  have c0_c0 := C0_4.out.cell 0
  have c0_c1 := C0_4.out.cell 1
  have c0_c2 := C0_4.out.cell 2
  have x_c0 := X_4.out.cell 0
  have x_c1 := X_4.out.cell 1
  have x_c2 := X_4.out.cell 2
  have y_c0 := Y_4.out.cell 0
  have y_c1 := Y_4.out.cell 1
  have y_c2 := Y_4.out.cell 2
  simp at c0_c0 c0_c1 c0_c2 x_c0 x_c1 x_c2 y_c0 y_c1 y_c2
  have c0_l := C0_4.out.lt
  have x_l := X_4.out.lt
  have y_l := Y_4.out.lt
  go_wp2_with fail
  refine (HSND.out n' (Ty.below_w HQ0_4.out HA4.out) HSA.out).mono ?_
  rintro e w5 ⟨p20, p21, p22, fp2, rfl, hm2, hf2, hsm2, hb5⟩
  clear c0_c0 c0_c1 c0_c2 x_c0 x_c1 x_c2 y_c0 y_c1 y_c2 c0_l x_l y_l
  have HC5 := Lib.hid (HA4.out.trans (hb5.mono HA4.out.size))
  have HW5 := Lib.hid (HW4.out.trans (HC5.out.mono HW4.out.size))
  have HR0_5 := Lib.hid (Ty.below_w HR0_4.out HC5.out)
  have HQ0_5 := Lib.hid (Ty.below_w HQ0_4.out HC5.out)
  have HQ1_5 := Lib.hid (Ty.below_w HQ1_4.out HC5.out)
  have C0_5 := Lib.hid (C0_4.out.below HC5.out C0_4.out.lt)
  have X_5 := Lib.hid (X_4.out.below HC5.out X_4.out.lt)
  have Y_5 := Lib.hid (Y_4.out.below HC5.out Y_4.out.lt)
  clear hb5
  rw [HF2.out]
  rw [snd_yes HF2.out, HYY.out] at hm2
  clear hsm2
  obtain ⟨G20, m20, o20, G21, m21, o21, G22, m22, o22, hcs⟩ := tySigs_shM hm2
  simp only [List.cons.injEq, and_true] at hcs
  obtain ⟨rfl, rfl, rfl⟩ := hcs
  have HQ2_5 := Lib.hid (tySigs.mr hm2 fun b hb => (hf2 b hb).2)
  clear hm2 hf2
  obtain ⟨bs0, as0, _, bs1, as1, _, bs2, as2, _, hx0, hx1, hx2, hx⟩ := read8 HR0_5.out HSG.out.1 HSG.out.2.1 HSG.out.2.2.1
  simp only [Value.slice.injEq] at hx0 hx1 hx2
  obtain ⟨rfl, rfl, rfl⟩ := hx0
  obtain ⟨rfl, rfl, rfl⟩ := hx1
  obtain ⟨rfl, rfl, rfl⟩ := hx2
  have E0_5 := Lib.hid hx
  clear hx
  obtain ⟨bx0, ax0, _, bx1, ax1, _, bx2, ax2, _, hx0, hx1, hx2, hx⟩ := read8 HQ0_5.out HSO.out.1 HSO.out.2.1 HSO.out.2.2.1
  simp only [Value.slice.injEq] at hx0 hx1 hx2
  obtain ⟨rfl, rfl, rfl⟩ := hx0
  obtain ⟨rfl, rfl, rfl⟩ := hx1
  obtain ⟨rfl, rfl, rfl⟩ := hx2
  have EX_5 := Lib.hid hx
  clear hx
  have r0 := E0_5.out.c2 k hk
  have r1 := E0_5.out.c1 k hk
  have r2 := EX_5.out.c0 k hk
  dsimp only at r0 r1 r2
  generalize L0.getD k 0 = d at r0 HD1
  generalize B0.getD k false = bb at r1 HHERE
  generalize H1.getD k false = hh at r2 HHERE
  have HR0C := Lib.hid r0
  have HR1C := Lib.hid r1
  have HR2C := Lib.hid r2
  clear r0 r1 r2
  by_cases d1 : d = 1
  case pos =>
    subst d1
    skip
    cases bb
    · skip
      have HA5 := Lib.hid (show Below w5.heap.size w5 (w5.alloc (.cells #[.slice G20 m20 o20, .slice G21 m21 o21, .slice G22 m22 o22] 26)) from ((Below.refl _ _).alloc (Nat.le_refl _) _))
      have r0 := (kc HA5.out _ _ E0_5.out.h2).trans HR0C.out
      have c0_c0 := C0_5.out.cell 0
      have c0_c1 := C0_5.out.cell 1
      have c0_c2 := C0_5.out.cell 2
      have x_c0 := X_5.out.cell 0
      have x_c1 := X_5.out.cell 1
      have x_c2 := X_5.out.cell 2
      have y_c0 := Y_5.out.cell 0
      have y_c1 := Y_5.out.cell 1
      have y_c2 := Y_5.out.cell 2
      simp at c0_c0 c0_c1 c0_c2 x_c0 x_c1 x_c2 y_c0 y_c1 y_c2
      have c0_l := C0_5.out.lt
      have x_l := X_5.out.lt
      have y_l := Y_5.out.lt
      go_wp2_with fail
      refine (HOK.out (Ty.below_w HQ0_5.out HA5.out)).mono ?_
      rw [HOK1.out]
      rintro e w6 ⟨rfl, hb6⟩
      clear c0_c0 c0_c1 c0_c2 x_c0 x_c1 x_c2 y_c0 y_c1 y_c2 c0_l x_l y_l
      clear r0
      have HC6 := Lib.hid (HA5.out.trans (hb6.mono HA5.out.size))
      have HW6 := Lib.hid (HW5.out.trans (HC6.out.mono HW5.out.size))
      have HD6 := Lib.hid HC6.out
      have HR0_6 := Lib.hid (Ty.below_w HR0_5.out HC6.out)
      have HQ0_6 := Lib.hid (Ty.below_w HQ0_5.out HC6.out)
      have HQ1_6 := Lib.hid (Ty.below_w HQ1_5.out HC6.out)
      have HQ2_6 := Lib.hid (Ty.below_w HQ2_5.out HC6.out)
      have C0_6 := Lib.hid (C0_5.out.below HC6.out C0_5.out.lt)
      have X_6 := Lib.hid (X_5.out.below HC6.out X_5.out.lt)
      have Y_6 := Lib.hid (Y_5.out.below HC6.out Y_5.out.lt)
      have Z_6 := Lib.hid ((Box.new w5 #[.slice G20 m20 o20, .slice G21 m21 o21, .slice G22 m22 o22] 26).below hb6 (by simp only [World.size_alloc]; omega))
      have E0_6 := Lib.hid (E0_5.out.below HC6.out)
      have EX_6 := Lib.hid (EX_5.out.below HC6.out)
      clear hb6
      have HA6 := Lib.hid (show Below w6.heap.size w6 w6 from (Below.refl _ _))
      have c0_c0 := C0_6.out.cell 0
      have c0_c1 := C0_6.out.cell 1
      have c0_c2 := C0_6.out.cell 2
      have x_c0 := X_6.out.cell 0
      have x_c1 := X_6.out.cell 1
      have x_c2 := X_6.out.cell 2
      have y_c0 := Y_6.out.cell 0
      have y_c1 := Y_6.out.cell 1
      have y_c2 := Y_6.out.cell 2
      have z_c0 := Z_6.out.cell 0
      have z_c1 := Z_6.out.cell 1
      have z_c2 := Z_6.out.cell 2
      simp at c0_c0 c0_c1 c0_c2 x_c0 x_c1 x_c2 y_c0 y_c1 y_c2 z_c0 z_c1 z_c2
      have c0_l := C0_6.out.lt
      have x_l := X_6.out.lt
      have y_l := Y_6.out.lt
      have z_l := Z_6.out.lt
      go_wp2_with fail
      refine (qdSigs_t (Ty.below_w HQ2_6.out HA6.out) (Ty.below_w HQ0_6.out HA6.out)).mono ?_
      rintro e w7 ⟨rfl, hb7⟩
      clear c0_c0 c0_c1 c0_c2 x_c0 x_c1 x_c2 y_c0 y_c1 y_c2 z_c0 z_c1 z_c2 c0_l x_l y_l z_l
      have HC7 := Lib.hid (HA6.out.trans (hb7.mono HA6.out.size))
      have HW7 := Lib.hid (HW6.out.trans (HC7.out.mono HW6.out.size))
      have HD7 := Lib.hid (HD6.out.trans (HC7.out.mono HD6.out.size))
      have HR0_7 := Lib.hid (Ty.below_w HR0_6.out HC7.out)
      have HQ0_7 := Lib.hid (Ty.below_w HQ0_6.out HC7.out)
      have HQ1_7 := Lib.hid (Ty.below_w HQ1_6.out HC7.out)
      have HQ2_7 := Lib.hid (Ty.below_w HQ2_6.out HC7.out)
      have C0_7 := Lib.hid (C0_6.out.below HC7.out C0_6.out.lt)
      have X_7 := Lib.hid (X_6.out.below HC7.out X_6.out.lt)
      have Y_7 := Lib.hid (Y_6.out.below HC7.out Y_6.out.lt)
      have Z_7 := Lib.hid (Z_6.out.below HC7.out Z_6.out.lt)
      have E0_7 := Lib.hid (E0_6.out.below HC7.out)
      have EX_7 := Lib.hid (EX_6.out.below HC7.out)
      clear hb7
      have HA7 := Lib.hid (show Below w7.heap.size w7 w7 from (Below.refl _ _))
      have r1 := (show Below w5.heap.size w5 w7 from HD7.out).cell (p := ⟨bs1, as1 + k, none⟩) E0_5.out.h1 |>.trans HR1C.out
      have r2 := (show Below w5.heap.size w5 w7 from HD7.out).cell (p := ⟨bx0, ax0 + k, none⟩) EX_5.out.h0 |>.trans HR2C.out
      skip
      have c0_c0 := C0_7.out.cell 0
      have c0_c1 := C0_7.out.cell 1
      have c0_c2 := C0_7.out.cell 2
      have x_c0 := X_7.out.cell 0
      have x_c1 := X_7.out.cell 1
      have x_c2 := X_7.out.cell 2
      have y_c0 := Y_7.out.cell 0
      have y_c1 := Y_7.out.cell 1
      have y_c2 := Y_7.out.cell 2
      have z_c0 := Z_7.out.cell 0
      have z_c1 := Z_7.out.cell 1
      have z_c2 := Z_7.out.cell 2
      simp at c0_c0 c0_c1 c0_c2 x_c0 x_c1 x_c2 y_c0 y_c1 y_c2 z_c0 z_c1 z_c2
      have c0_l := C0_7.out.lt
      have x_l := X_7.out.lt
      have y_l := Y_7.out.lt
      have z_l := Z_7.out.lt
      go_wp2_with fail
      go_ret
      exact ⟨rfl, HW7.out⟩
    · skip
      have HA5 := Lib.hid (show Below w5.heap.size w5 (w5.alloc (.cells #[.slice G20 m20 o20, .slice G21 m21 o21, .slice G22 m22 o22] 26)) from ((Below.refl _ _).alloc (Nat.le_refl _) _))
      have r0 := (kc HA5.out _ _ E0_5.out.h2).trans HR0C.out
      have c0_c0 := C0_5.out.cell 0
      have c0_c1 := C0_5.out.cell 1
      have c0_c2 := C0_5.out.cell 2
      have x_c0 := X_5.out.cell 0
      have x_c1 := X_5.out.cell 1
      have x_c2 := X_5.out.cell 2
      have y_c0 := Y_5.out.cell 0
      have y_c1 := Y_5.out.cell 1
      have y_c2 := Y_5.out.cell 2
      simp at c0_c0 c0_c1 c0_c2 x_c0 x_c1 x_c2 y_c0 y_c1 y_c2
      have c0_l := C0_5.out.lt
      have x_l := X_5.out.lt
      have y_l := Y_5.out.lt
      go_wp2_with fail
      refine (HOK.out (Ty.below_w HQ0_5.out HA5.out)).mono ?_
      rw [HOK1.out]
      rintro e w6 ⟨rfl, hb6⟩
      clear c0_c0 c0_c1 c0_c2 x_c0 x_c1 x_c2 y_c0 y_c1 y_c2 c0_l x_l y_l
      clear r0
      have HC6 := Lib.hid (HA5.out.trans (hb6.mono HA5.out.size))
      have HW6 := Lib.hid (HW5.out.trans (HC6.out.mono HW5.out.size))
      have HD6 := Lib.hid HC6.out
      have HR0_6 := Lib.hid (Ty.below_w HR0_5.out HC6.out)
      have HQ0_6 := Lib.hid (Ty.below_w HQ0_5.out HC6.out)
      have HQ1_6 := Lib.hid (Ty.below_w HQ1_5.out HC6.out)
      have HQ2_6 := Lib.hid (Ty.below_w HQ2_5.out HC6.out)
      have C0_6 := Lib.hid (C0_5.out.below HC6.out C0_5.out.lt)
      have X_6 := Lib.hid (X_5.out.below HC6.out X_5.out.lt)
      have Y_6 := Lib.hid (Y_5.out.below HC6.out Y_5.out.lt)
      have Z_6 := Lib.hid ((Box.new w5 #[.slice G20 m20 o20, .slice G21 m21 o21, .slice G22 m22 o22] 26).below hb6 (by simp only [World.size_alloc]; omega))
      have E0_6 := Lib.hid (E0_5.out.below HC6.out)
      have EX_6 := Lib.hid (EX_5.out.below HC6.out)
      clear hb6
      have HA6 := Lib.hid (show Below w6.heap.size w6 w6 from (Below.refl _ _))
      have c0_c0 := C0_6.out.cell 0
      have c0_c1 := C0_6.out.cell 1
      have c0_c2 := C0_6.out.cell 2
      have x_c0 := X_6.out.cell 0
      have x_c1 := X_6.out.cell 1
      have x_c2 := X_6.out.cell 2
      have y_c0 := Y_6.out.cell 0
      have y_c1 := Y_6.out.cell 1
      have y_c2 := Y_6.out.cell 2
      have z_c0 := Z_6.out.cell 0
      have z_c1 := Z_6.out.cell 1
      have z_c2 := Z_6.out.cell 2
      simp at c0_c0 c0_c1 c0_c2 x_c0 x_c1 x_c2 y_c0 y_c1 y_c2 z_c0 z_c1 z_c2
      have c0_l := C0_6.out.lt
      have x_l := X_6.out.lt
      have y_l := Y_6.out.lt
      have z_l := Z_6.out.lt
      go_wp2_with fail
      refine (qdSigs_t (Ty.below_w HQ2_6.out HA6.out) (Ty.below_w HQ0_6.out HA6.out)).mono ?_
      rintro e w7 ⟨rfl, hb7⟩
      clear c0_c0 c0_c1 c0_c2 x_c0 x_c1 x_c2 y_c0 y_c1 y_c2 z_c0 z_c1 z_c2 c0_l x_l y_l z_l
      have HC7 := Lib.hid (HA6.out.trans (hb7.mono HA6.out.size))
      have HW7 := Lib.hid (HW6.out.trans (HC7.out.mono HW6.out.size))
      have HD7 := Lib.hid (HD6.out.trans (HC7.out.mono HD6.out.size))
      have HR0_7 := Lib.hid (Ty.below_w HR0_6.out HC7.out)
      have HQ0_7 := Lib.hid (Ty.below_w HQ0_6.out HC7.out)
      have HQ1_7 := Lib.hid (Ty.below_w HQ1_6.out HC7.out)
      have HQ2_7 := Lib.hid (Ty.below_w HQ2_6.out HC7.out)
      have C0_7 := Lib.hid (C0_6.out.below HC7.out C0_6.out.lt)
      have X_7 := Lib.hid (X_6.out.below HC7.out X_6.out.lt)
      have Y_7 := Lib.hid (Y_6.out.below HC7.out Y_6.out.lt)
      have Z_7 := Lib.hid (Z_6.out.below HC7.out Z_6.out.lt)
      have E0_7 := Lib.hid (E0_6.out.below HC7.out)
      have EX_7 := Lib.hid (EX_6.out.below HC7.out)
      clear hb7
      have HA7 := Lib.hid (show Below w7.heap.size w7 w7 from (Below.refl _ _))
      have r1 := (show Below w5.heap.size w5 w7 from HD7.out).cell (p := ⟨bs1, as1 + k, none⟩) E0_5.out.h1 |>.trans HR1C.out
      have r2 := (show Below w5.heap.size w5 w7 from HD7.out).cell (p := ⟨bx0, ax0 + k, none⟩) EX_5.out.h0 |>.trans HR2C.out
      rw [HHERE.out (fun h => by cases h.2)] at r2
      have c0_c0 := C0_7.out.cell 0
      have c0_c1 := C0_7.out.cell 1
      have c0_c2 := C0_7.out.cell 2
      have x_c0 := X_7.out.cell 0
      have x_c1 := X_7.out.cell 1
      have x_c2 := X_7.out.cell 2
      have y_c0 := Y_7.out.cell 0
      have y_c1 := Y_7.out.cell 1
      have y_c2 := Y_7.out.cell 2
      have z_c0 := Z_7.out.cell 0
      have z_c1 := Z_7.out.cell 1
      have z_c2 := Z_7.out.cell 2
      simp at c0_c0 c0_c1 c0_c2 x_c0 x_c1 x_c2 y_c0 y_c1 y_c2 z_c0 z_c1 z_c2
      have c0_l := C0_7.out.lt
      have x_l := X_7.out.lt
      have y_l := Y_7.out.lt
      have z_l := Z_7.out.lt
      go_wp2_with fail
      go_ret
      exact ⟨rfl, HW7.out⟩
  have e1 : (d == 1) = false := by simpa using d1
  by_cases d0 : d = 0
  case pos =>
    subst d0
    by_cases n4 : n' = 4
    case pos =>
      subst n4
      obtain rfl : k = 3 := by have := HKN.out; omega
      clear hk1 hk3 hk4
      cases bb
      · skip
        have HA5 := Lib.hid (show Below w5.heap.size w5 (w5.alloc (.cells #[.slice G20 m20 o20, .slice G21 m21 o21, .slice G22 m22 o22] 26)) from ((Below.refl _ _).alloc (Nat.le_refl _) _))
        have r0 := (kc HA5.out _ _ E0_5.out.h2).trans HR0C.out
        have c0_c0 := C0_5.out.cell 0
        have c0_c1 := C0_5.out.cell 1
        have c0_c2 := C0_5.out.cell 2
        have x_c0 := X_5.out.cell 0
        have x_c1 := X_5.out.cell 1
        have x_c2 := X_5.out.cell 2
        have y_c0 := Y_5.out.cell 0
        have y_c1 := Y_5.out.cell 1
        have y_c2 := Y_5.out.cell 2
        simp at c0_c0 c0_c1 c0_c2 x_c0 x_c1 x_c2 y_c0 y_c1 y_c2
        have c0_l := C0_5.out.lt
        have x_l := X_5.out.lt
        have y_l := Y_5.out.lt
        go_wp2_with fail
        refine (HOK.out (Ty.below_w HQ0_5.out HA5.out)).mono ?_
        rw [HOK1.out]
        rintro e w6 ⟨rfl, hb6⟩
        clear c0_c0 c0_c1 c0_c2 x_c0 x_c1 x_c2 y_c0 y_c1 y_c2 c0_l x_l y_l
        clear r0
        have HC6 := Lib.hid (HA5.out.trans (hb6.mono HA5.out.size))
        have HW6 := Lib.hid (HW5.out.trans (HC6.out.mono HW5.out.size))
        have HD6 := Lib.hid HC6.out
        have HR0_6 := Lib.hid (Ty.below_w HR0_5.out HC6.out)
        have HQ0_6 := Lib.hid (Ty.below_w HQ0_5.out HC6.out)
        have HQ1_6 := Lib.hid (Ty.below_w HQ1_5.out HC6.out)
        have HQ2_6 := Lib.hid (Ty.below_w HQ2_5.out HC6.out)
        have C0_6 := Lib.hid (C0_5.out.below HC6.out C0_5.out.lt)
        have X_6 := Lib.hid (X_5.out.below HC6.out X_5.out.lt)
        have Y_6 := Lib.hid (Y_5.out.below HC6.out Y_5.out.lt)
        have Z_6 := Lib.hid ((Box.new w5 #[.slice G20 m20 o20, .slice G21 m21 o21, .slice G22 m22 o22] 26).below hb6 (by simp only [World.size_alloc]; omega))
        have E0_6 := Lib.hid (E0_5.out.below HC6.out)
        have EX_6 := Lib.hid (EX_5.out.below HC6.out)
        clear hb6
        have HA6 := Lib.hid (show Below w6.heap.size w6 w6 from (Below.refl _ _))
        have c0_c0 := C0_6.out.cell 0
        have c0_c1 := C0_6.out.cell 1
        have c0_c2 := C0_6.out.cell 2
        have x_c0 := X_6.out.cell 0
        have x_c1 := X_6.out.cell 1
        have x_c2 := X_6.out.cell 2
        have y_c0 := Y_6.out.cell 0
        have y_c1 := Y_6.out.cell 1
        have y_c2 := Y_6.out.cell 2
        have z_c0 := Z_6.out.cell 0
        have z_c1 := Z_6.out.cell 1
        have z_c2 := Z_6.out.cell 2
        simp at c0_c0 c0_c1 c0_c2 x_c0 x_c1 x_c2 y_c0 y_c1 y_c2 z_c0 z_c1 z_c2
        have c0_l := C0_6.out.lt
        have x_l := X_6.out.lt
        have y_l := Y_6.out.lt
        have z_l := Z_6.out.lt
        go_wp2_with fail
        refine (qdSigs_t (Ty.below_w HQ2_6.out HA6.out) (Ty.below_w HQ0_6.out HA6.out)).mono ?_
        rintro e w7 ⟨rfl, hb7⟩
        clear c0_c0 c0_c1 c0_c2 x_c0 x_c1 x_c2 y_c0 y_c1 y_c2 z_c0 z_c1 z_c2 c0_l x_l y_l z_l
        have HC7 := Lib.hid (HA6.out.trans (hb7.mono HA6.out.size))
        have HW7 := Lib.hid (HW6.out.trans (HC7.out.mono HW6.out.size))
        have HD7 := Lib.hid (HD6.out.trans (HC7.out.mono HD6.out.size))
        have HR0_7 := Lib.hid (Ty.below_w HR0_6.out HC7.out)
        have HQ0_7 := Lib.hid (Ty.below_w HQ0_6.out HC7.out)
        have HQ1_7 := Lib.hid (Ty.below_w HQ1_6.out HC7.out)
        have HQ2_7 := Lib.hid (Ty.below_w HQ2_6.out HC7.out)
        have C0_7 := Lib.hid (C0_6.out.below HC7.out C0_6.out.lt)
        have X_7 := Lib.hid (X_6.out.below HC7.out X_6.out.lt)
        have Y_7 := Lib.hid (Y_6.out.below HC7.out Y_6.out.lt)
        have Z_7 := Lib.hid (Z_6.out.below HC7.out Z_6.out.lt)
        have E0_7 := Lib.hid (E0_6.out.below HC7.out)
        have EX_7 := Lib.hid (EX_6.out.below HC7.out)
        clear hb7
        have HA7 := Lib.hid (show Below w7.heap.size w7 w7 from (Below.refl _ _))
        have r1 := (show Below w5.heap.size w5 w7 from HD7.out).cell (p := ⟨bs1, as1 + 3, none⟩) E0_5.out.h1 |>.trans HR1C.out
        have r2 := (show Below w5.heap.size w5 w7 from HD7.out).cell (p := ⟨bx0, ax0 + 3, none⟩) EX_5.out.h0 |>.trans HR2C.out
        skip
        have c0_c0 := C0_7.out.cell 0
        have c0_c1 := C0_7.out.cell 1
        have c0_c2 := C0_7.out.cell 2
        have x_c0 := X_7.out.cell 0
        have x_c1 := X_7.out.cell 1
        have x_c2 := X_7.out.cell 2
        have y_c0 := Y_7.out.cell 0
        have y_c1 := Y_7.out.cell 1
        have y_c2 := Y_7.out.cell 2
        have z_c0 := Z_7.out.cell 0
        have z_c1 := Z_7.out.cell 1
        have z_c2 := Z_7.out.cell 2
        simp at c0_c0 c0_c1 c0_c2 x_c0 x_c1 x_c2 y_c0 y_c1 y_c2 z_c0 z_c1 z_c2
        have c0_l := C0_7.out.lt
        have x_l := X_7.out.lt
        have y_l := Y_7.out.lt
        have z_l := Z_7.out.lt
        go_wp2_with fail
        go_ret
        exact ⟨rfl, HW7.out⟩
      · skip
        have HA5 := Lib.hid (show Below w5.heap.size w5 (w5.alloc (.cells #[.slice G20 m20 o20, .slice G21 m21 o21, .slice G22 m22 o22] 26)) from ((Below.refl _ _).alloc (Nat.le_refl _) _))
        have r0 := (kc HA5.out _ _ E0_5.out.h2).trans HR0C.out
        have c0_c0 := C0_5.out.cell 0
        have c0_c1 := C0_5.out.cell 1
        have c0_c2 := C0_5.out.cell 2
        have x_c0 := X_5.out.cell 0
        have x_c1 := X_5.out.cell 1
        have x_c2 := X_5.out.cell 2
        have y_c0 := Y_5.out.cell 0
        have y_c1 := Y_5.out.cell 1
        have y_c2 := Y_5.out.cell 2
        simp at c0_c0 c0_c1 c0_c2 x_c0 x_c1 x_c2 y_c0 y_c1 y_c2
        have c0_l := C0_5.out.lt
        have x_l := X_5.out.lt
        have y_l := Y_5.out.lt
        go_wp2_with fail
        refine (HOK.out (Ty.below_w HQ0_5.out HA5.out)).mono ?_
        rw [HOK1.out]
        rintro e w6 ⟨rfl, hb6⟩
        clear c0_c0 c0_c1 c0_c2 x_c0 x_c1 x_c2 y_c0 y_c1 y_c2 c0_l x_l y_l
        clear r0
        have HC6 := Lib.hid (HA5.out.trans (hb6.mono HA5.out.size))
        have HW6 := Lib.hid (HW5.out.trans (HC6.out.mono HW5.out.size))
        have HD6 := Lib.hid HC6.out
        have HR0_6 := Lib.hid (Ty.below_w HR0_5.out HC6.out)
        have HQ0_6 := Lib.hid (Ty.below_w HQ0_5.out HC6.out)
        have HQ1_6 := Lib.hid (Ty.below_w HQ1_5.out HC6.out)
        have HQ2_6 := Lib.hid (Ty.below_w HQ2_5.out HC6.out)
        have C0_6 := Lib.hid (C0_5.out.below HC6.out C0_5.out.lt)
        have X_6 := Lib.hid (X_5.out.below HC6.out X_5.out.lt)
        have Y_6 := Lib.hid (Y_5.out.below HC6.out Y_5.out.lt)
        have Z_6 := Lib.hid ((Box.new w5 #[.slice G20 m20 o20, .slice G21 m21 o21, .slice G22 m22 o22] 26).below hb6 (by simp only [World.size_alloc]; omega))
        have E0_6 := Lib.hid (E0_5.out.below HC6.out)
        have EX_6 := Lib.hid (EX_5.out.below HC6.out)
        clear hb6
        have HA6 := Lib.hid (show Below w6.heap.size w6 w6 from (Below.refl _ _))
        have c0_c0 := C0_6.out.cell 0
        have c0_c1 := C0_6.out.cell 1
        have c0_c2 := C0_6.out.cell 2
        have x_c0 := X_6.out.cell 0
        have x_c1 := X_6.out.cell 1
        have x_c2 := X_6.out.cell 2
        have y_c0 := Y_6.out.cell 0
        have y_c1 := Y_6.out.cell 1
        have y_c2 := Y_6.out.cell 2
        have z_c0 := Z_6.out.cell 0
        have z_c1 := Z_6.out.cell 1
        have z_c2 := Z_6.out.cell 2
        simp at c0_c0 c0_c1 c0_c2 x_c0 x_c1 x_c2 y_c0 y_c1 y_c2 z_c0 z_c1 z_c2
        have c0_l := C0_6.out.lt
        have x_l := X_6.out.lt
        have y_l := Y_6.out.lt
        have z_l := Z_6.out.lt
        go_wp2_with fail
        refine (qdSigs_t (Ty.below_w HQ2_6.out HA6.out) (Ty.below_w HQ0_6.out HA6.out)).mono ?_
        rintro e w7 ⟨rfl, hb7⟩
        clear c0_c0 c0_c1 c0_c2 x_c0 x_c1 x_c2 y_c0 y_c1 y_c2 z_c0 z_c1 z_c2 c0_l x_l y_l z_l
        have HC7 := Lib.hid (HA6.out.trans (hb7.mono HA6.out.size))
        have HW7 := Lib.hid (HW6.out.trans (HC7.out.mono HW6.out.size))
        have HD7 := Lib.hid (HD6.out.trans (HC7.out.mono HD6.out.size))
        have HR0_7 := Lib.hid (Ty.below_w HR0_6.out HC7.out)
        have HQ0_7 := Lib.hid (Ty.below_w HQ0_6.out HC7.out)
        have HQ1_7 := Lib.hid (Ty.below_w HQ1_6.out HC7.out)
        have HQ2_7 := Lib.hid (Ty.below_w HQ2_6.out HC7.out)
        have C0_7 := Lib.hid (C0_6.out.below HC7.out C0_6.out.lt)
        have X_7 := Lib.hid (X_6.out.below HC7.out X_6.out.lt)
        have Y_7 := Lib.hid (Y_6.out.below HC7.out Y_6.out.lt)
        have Z_7 := Lib.hid (Z_6.out.below HC7.out Z_6.out.lt)
        have E0_7 := Lib.hid (E0_6.out.below HC7.out)
        have EX_7 := Lib.hid (EX_6.out.below HC7.out)
        clear hb7
        have HA7 := Lib.hid (show Below w7.heap.size w7 w7 from (Below.refl _ _))
        have r1 := (show Below w5.heap.size w5 w7 from HD7.out).cell (p := ⟨bs1, as1 + 3, none⟩) E0_5.out.h1 |>.trans HR1C.out
        have r2 := (show Below w5.heap.size w5 w7 from HD7.out).cell (p := ⟨bx0, ax0 + 3, none⟩) EX_5.out.h0 |>.trans HR2C.out
        rw [HHERE.out (fun h => by cases h.2)] at r2
        have c0_c0 := C0_7.out.cell 0
        have c0_c1 := C0_7.out.cell 1
        have c0_c2 := C0_7.out.cell 2
        have x_c0 := X_7.out.cell 0
        have x_c1 := X_7.out.cell 1
        have x_c2 := X_7.out.cell 2
        have y_c0 := Y_7.out.cell 0
        have y_c1 := Y_7.out.cell 1
        have y_c2 := Y_7.out.cell 2
        have z_c0 := Z_7.out.cell 0
        have z_c1 := Z_7.out.cell 1
        have z_c2 := Z_7.out.cell 2
        simp at c0_c0 c0_c1 c0_c2 x_c0 x_c1 x_c2 y_c0 y_c1 y_c2 z_c0 z_c1 z_c2
        have c0_l := C0_7.out.lt
        have x_l := X_7.out.lt
        have y_l := Y_7.out.lt
        have z_l := Z_7.out.lt
        go_wp2_with fail
        go_ret
        exact ⟨rfl, HW7.out⟩
    have e4 : (n' == 4) = false := by simpa using n4
    by_cases n7 : n' = 7
    case pos =>
      subst n7
      obtain rfl : k = 6 := by have := HKN.out; omega
      clear hk1 hk3 hk4
      cases bb
      · skip
        have HA5 := Lib.hid (show Below w5.heap.size w5 (w5.alloc (.cells #[.slice G20 m20 o20, .slice G21 m21 o21, .slice G22 m22 o22] 26)) from ((Below.refl _ _).alloc (Nat.le_refl _) _))
        have r0 := (kc HA5.out _ _ E0_5.out.h2).trans HR0C.out
        have c0_c0 := C0_5.out.cell 0
        have c0_c1 := C0_5.out.cell 1
        have c0_c2 := C0_5.out.cell 2
        have x_c0 := X_5.out.cell 0
        have x_c1 := X_5.out.cell 1
        have x_c2 := X_5.out.cell 2
        have y_c0 := Y_5.out.cell 0
        have y_c1 := Y_5.out.cell 1
        have y_c2 := Y_5.out.cell 2
        simp at c0_c0 c0_c1 c0_c2 x_c0 x_c1 x_c2 y_c0 y_c1 y_c2
        have c0_l := C0_5.out.lt
        have x_l := X_5.out.lt
        have y_l := Y_5.out.lt
        go_wp2_with fail
        refine (HOK.out (Ty.below_w HQ0_5.out HA5.out)).mono ?_
        rw [HOK1.out]
        rintro e w6 ⟨rfl, hb6⟩
        clear c0_c0 c0_c1 c0_c2 x_c0 x_c1 x_c2 y_c0 y_c1 y_c2 c0_l x_l y_l
        clear r0
        have HC6 := Lib.hid (HA5.out.trans (hb6.mono HA5.out.size))
        have HW6 := Lib.hid (HW5.out.trans (HC6.out.mono HW5.out.size))
        have HD6 := Lib.hid HC6.out
        have HR0_6 := Lib.hid (Ty.below_w HR0_5.out HC6.out)
        have HQ0_6 := Lib.hid (Ty.below_w HQ0_5.out HC6.out)
        have HQ1_6 := Lib.hid (Ty.below_w HQ1_5.out HC6.out)
        have HQ2_6 := Lib.hid (Ty.below_w HQ2_5.out HC6.out)
        have C0_6 := Lib.hid (C0_5.out.below HC6.out C0_5.out.lt)
        have X_6 := Lib.hid (X_5.out.below HC6.out X_5.out.lt)
        have Y_6 := Lib.hid (Y_5.out.below HC6.out Y_5.out.lt)
        have Z_6 := Lib.hid ((Box.new w5 #[.slice G20 m20 o20, .slice G21 m21 o21, .slice G22 m22 o22] 26).below hb6 (by simp only [World.size_alloc]; omega))
        have E0_6 := Lib.hid (E0_5.out.below HC6.out)
        have EX_6 := Lib.hid (EX_5.out.below HC6.out)
        clear hb6
        have HA6 := Lib.hid (show Below w6.heap.size w6 w6 from (Below.refl _ _))
        have c0_c0 := C0_6.out.cell 0
        have c0_c1 := C0_6.out.cell 1
        have c0_c2 := C0_6.out.cell 2
        have x_c0 := X_6.out.cell 0
        have x_c1 := X_6.out.cell 1
        have x_c2 := X_6.out.cell 2
        have y_c0 := Y_6.out.cell 0
        have y_c1 := Y_6.out.cell 1
        have y_c2 := Y_6.out.cell 2
        have z_c0 := Z_6.out.cell 0
        have z_c1 := Z_6.out.cell 1
        have z_c2 := Z_6.out.cell 2
        simp at c0_c0 c0_c1 c0_c2 x_c0 x_c1 x_c2 y_c0 y_c1 y_c2 z_c0 z_c1 z_c2
        have c0_l := C0_6.out.lt
        have x_l := X_6.out.lt
        have y_l := Y_6.out.lt
        have z_l := Z_6.out.lt
        go_wp2_with fail
        refine (qdSigs_t (Ty.below_w HQ2_6.out HA6.out) (Ty.below_w HQ0_6.out HA6.out)).mono ?_
        rintro e w7 ⟨rfl, hb7⟩
        clear c0_c0 c0_c1 c0_c2 x_c0 x_c1 x_c2 y_c0 y_c1 y_c2 z_c0 z_c1 z_c2 c0_l x_l y_l z_l
        have HC7 := Lib.hid (HA6.out.trans (hb7.mono HA6.out.size))
        have HW7 := Lib.hid (HW6.out.trans (HC7.out.mono HW6.out.size))
        have HD7 := Lib.hid (HD6.out.trans (HC7.out.mono HD6.out.size))
        have HR0_7 := Lib.hid (Ty.below_w HR0_6.out HC7.out)
        have HQ0_7 := Lib.hid (Ty.below_w HQ0_6.out HC7.out)
        have HQ1_7 := Lib.hid (Ty.below_w HQ1_6.out HC7.out)
        have HQ2_7 := Lib.hid (Ty.below_w HQ2_6.out HC7.out)
        have C0_7 := Lib.hid (C0_6.out.below HC7.out C0_6.out.lt)
        have X_7 := Lib.hid (X_6.out.below HC7.out X_6.out.lt)
        have Y_7 := Lib.hid (Y_6.out.below HC7.out Y_6.out.lt)
        have Z_7 := Lib.hid (Z_6.out.below HC7.out Z_6.out.lt)
        have E0_7 := Lib.hid (E0_6.out.below HC7.out)
        have EX_7 := Lib.hid (EX_6.out.below HC7.out)
        clear hb7
        have HA7 := Lib.hid (show Below w7.heap.size w7 w7 from (Below.refl _ _))
        have r1 := (show Below w5.heap.size w5 w7 from HD7.out).cell (p := ⟨bs1, as1 + 6, none⟩) E0_5.out.h1 |>.trans HR1C.out
        have r2 := (show Below w5.heap.size w5 w7 from HD7.out).cell (p := ⟨bx0, ax0 + 6, none⟩) EX_5.out.h0 |>.trans HR2C.out
        skip
        have c0_c0 := C0_7.out.cell 0
        have c0_c1 := C0_7.out.cell 1
        have c0_c2 := C0_7.out.cell 2
        have x_c0 := X_7.out.cell 0
        have x_c1 := X_7.out.cell 1
        have x_c2 := X_7.out.cell 2
        have y_c0 := Y_7.out.cell 0
        have y_c1 := Y_7.out.cell 1
        have y_c2 := Y_7.out.cell 2
        have z_c0 := Z_7.out.cell 0
        have z_c1 := Z_7.out.cell 1
        have z_c2 := Z_7.out.cell 2
        simp at c0_c0 c0_c1 c0_c2 x_c0 x_c1 x_c2 y_c0 y_c1 y_c2 z_c0 z_c1 z_c2
        have c0_l := C0_7.out.lt
        have x_l := X_7.out.lt
        have y_l := Y_7.out.lt
        have z_l := Z_7.out.lt
        go_wp2_with fail
        go_ret
        exact ⟨rfl, HW7.out⟩
      · skip
        have HA5 := Lib.hid (show Below w5.heap.size w5 (w5.alloc (.cells #[.slice G20 m20 o20, .slice G21 m21 o21, .slice G22 m22 o22] 26)) from ((Below.refl _ _).alloc (Nat.le_refl _) _))
        have r0 := (kc HA5.out _ _ E0_5.out.h2).trans HR0C.out
        have c0_c0 := C0_5.out.cell 0
        have c0_c1 := C0_5.out.cell 1
        have c0_c2 := C0_5.out.cell 2
        have x_c0 := X_5.out.cell 0
        have x_c1 := X_5.out.cell 1
        have x_c2 := X_5.out.cell 2
        have y_c0 := Y_5.out.cell 0
        have y_c1 := Y_5.out.cell 1
        have y_c2 := Y_5.out.cell 2
        simp at c0_c0 c0_c1 c0_c2 x_c0 x_c1 x_c2 y_c0 y_c1 y_c2
        have c0_l := C0_5.out.lt
        have x_l := X_5.out.lt
        have y_l := Y_5.out.lt
        go_wp2_with fail
        refine (HOK.out (Ty.below_w HQ0_5.out HA5.out)).mono ?_
        rw [HOK1.out]
        rintro e w6 ⟨rfl, hb6⟩
        clear c0_c0 c0_c1 c0_c2 x_c0 x_c1 x_c2 y_c0 y_c1 y_c2 c0_l x_l y_l
        clear r0
        have HC6 := Lib.hid (HA5.out.trans (hb6.mono HA5.out.size))
        have HW6 := Lib.hid (HW5.out.trans (HC6.out.mono HW5.out.size))
        have HD6 := Lib.hid HC6.out
        have HR0_6 := Lib.hid (Ty.below_w HR0_5.out HC6.out)
        have HQ0_6 := Lib.hid (Ty.below_w HQ0_5.out HC6.out)
        have HQ1_6 := Lib.hid (Ty.below_w HQ1_5.out HC6.out)
        have HQ2_6 := Lib.hid (Ty.below_w HQ2_5.out HC6.out)
        have C0_6 := Lib.hid (C0_5.out.below HC6.out C0_5.out.lt)
        have X_6 := Lib.hid (X_5.out.below HC6.out X_5.out.lt)
        have Y_6 := Lib.hid (Y_5.out.below HC6.out Y_5.out.lt)
        have Z_6 := Lib.hid ((Box.new w5 #[.slice G20 m20 o20, .slice G21 m21 o21, .slice G22 m22 o22] 26).below hb6 (by simp only [World.size_alloc]; omega))
        have E0_6 := Lib.hid (E0_5.out.below HC6.out)
        have EX_6 := Lib.hid (EX_5.out.below HC6.out)
        clear hb6
        have HA6 := Lib.hid (show Below w6.heap.size w6 w6 from (Below.refl _ _))
        have c0_c0 := C0_6.out.cell 0
        have c0_c1 := C0_6.out.cell 1
        have c0_c2 := C0_6.out.cell 2
        have x_c0 := X_6.out.cell 0
        have x_c1 := X_6.out.cell 1
        have x_c2 := X_6.out.cell 2
        have y_c0 := Y_6.out.cell 0
        have y_c1 := Y_6.out.cell 1
        have y_c2 := Y_6.out.cell 2
        have z_c0 := Z_6.out.cell 0
        have z_c1 := Z_6.out.cell 1
        have z_c2 := Z_6.out.cell 2
        simp at c0_c0 c0_c1 c0_c2 x_c0 x_c1 x_c2 y_c0 y_c1 y_c2 z_c0 z_c1 z_c2
        have c0_l := C0_6.out.lt
        have x_l := X_6.out.lt
        have y_l := Y_6.out.lt
        have z_l := Z_6.out.lt
        go_wp2_with fail
        refine (qdSigs_t (Ty.below_w HQ2_6.out HA6.out) (Ty.below_w HQ0_6.out HA6.out)).mono ?_
        rintro e w7 ⟨rfl, hb7⟩
        clear c0_c0 c0_c1 c0_c2 x_c0 x_c1 x_c2 y_c0 y_c1 y_c2 z_c0 z_c1 z_c2 c0_l x_l y_l z_l
        have HC7 := Lib.hid (HA6.out.trans (hb7.mono HA6.out.size))
        have HW7 := Lib.hid (HW6.out.trans (HC7.out.mono HW6.out.size))
        have HD7 := Lib.hid (HD6.out.trans (HC7.out.mono HD6.out.size))
        have HR0_7 := Lib.hid (Ty.below_w HR0_6.out HC7.out)
        have HQ0_7 := Lib.hid (Ty.below_w HQ0_6.out HC7.out)
        have HQ1_7 := Lib.hid (Ty.below_w HQ1_6.out HC7.out)
        have HQ2_7 := Lib.hid (Ty.below_w HQ2_6.out HC7.out)
        have C0_7 := Lib.hid (C0_6.out.below HC7.out C0_6.out.lt)
        have X_7 := Lib.hid (X_6.out.below HC7.out X_6.out.lt)
        have Y_7 := Lib.hid (Y_6.out.below HC7.out Y_6.out.lt)
        have Z_7 := Lib.hid (Z_6.out.below HC7.out Z_6.out.lt)
        have E0_7 := Lib.hid (E0_6.out.below HC7.out)
        have EX_7 := Lib.hid (EX_6.out.below HC7.out)
        clear hb7
        have HA7 := Lib.hid (show Below w7.heap.size w7 w7 from (Below.refl _ _))
        have r1 := (show Below w5.heap.size w5 w7 from HD7.out).cell (p := ⟨bs1, as1 + 6, none⟩) E0_5.out.h1 |>.trans HR1C.out
        have r2 := (show Below w5.heap.size w5 w7 from HD7.out).cell (p := ⟨bx0, ax0 + 6, none⟩) EX_5.out.h0 |>.trans HR2C.out
        rw [HHERE.out (fun h => by cases h.2)] at r2
        have c0_c0 := C0_7.out.cell 0
        have c0_c1 := C0_7.out.cell 1
        have c0_c2 := C0_7.out.cell 2
        have x_c0 := X_7.out.cell 0
        have x_c1 := X_7.out.cell 1
        have x_c2 := X_7.out.cell 2
        have y_c0 := Y_7.out.cell 0
        have y_c1 := Y_7.out.cell 1
        have y_c2 := Y_7.out.cell 2
        have z_c0 := Z_7.out.cell 0
        have z_c1 := Z_7.out.cell 1
        have z_c2 := Z_7.out.cell 2
        simp at c0_c0 c0_c1 c0_c2 x_c0 x_c1 x_c2 y_c0 y_c1 y_c2 z_c0 z_c1 z_c2
        have c0_l := C0_7.out.lt
        have x_l := X_7.out.lt
        have y_l := Y_7.out.lt
        have z_l := Z_7.out.lt
        go_wp2_with fail
        go_ret
        exact ⟨rfl, HW7.out⟩
    have e7 : (n' == 7) = false := by simpa using n7
    have HNO := Lib.hid (show ¬ doesI L0 n' = 1 from fun h => by have h2 := HD1.out.1 h; omega)
    clear d1 n4 n7
    have HA5 := Lib.hid (show Below w5.heap.size w5 (w5.alloc (.cells #[.slice G20 m20 o20, .slice G21 m21 o21, .slice G22 m22 o22] 26)) from ((Below.refl _ _).alloc (Nat.le_refl _) _))
    have r0 := (kc HA5.out _ _ E0_5.out.h2).trans HR0C.out
    have c0_c0 := C0_5.out.cell 0
    have c0_c1 := C0_5.out.cell 1
    have c0_c2 := C0_5.out.cell 2
    have x_c0 := X_5.out.cell 0
    have x_c1 := X_5.out.cell 1
    have x_c2 := X_5.out.cell 2
    have y_c0 := Y_5.out.cell 0
    have y_c1 := Y_5.out.cell 1
    have y_c2 := Y_5.out.cell 2
    simp at c0_c0 c0_c1 c0_c2 x_c0 x_c1 x_c2 y_c0 y_c1 y_c2
    have c0_l := C0_5.out.lt
    have x_l := X_5.out.lt
    have y_l := Y_5.out.lt
    go_wp2_with fail
    refine (HOK.out (Ty.below_w HQ0_5.out HA5.out)).mono ?_
    rw [HOK1.out]
    rintro e w6 ⟨rfl, hb6⟩
    clear c0_c0 c0_c1 c0_c2 x_c0 x_c1 x_c2 y_c0 y_c1 y_c2 c0_l x_l y_l
    clear r0
    have HC6 := Lib.hid (HA5.out.trans (hb6.mono HA5.out.size))
    have HW6 := Lib.hid (HW5.out.trans (HC6.out.mono HW5.out.size))
    have HD6 := Lib.hid HC6.out
    have HR0_6 := Lib.hid (Ty.below_w HR0_5.out HC6.out)
    have HQ0_6 := Lib.hid (Ty.below_w HQ0_5.out HC6.out)
    have HQ1_6 := Lib.hid (Ty.below_w HQ1_5.out HC6.out)
    have HQ2_6 := Lib.hid (Ty.below_w HQ2_5.out HC6.out)
    have C0_6 := Lib.hid (C0_5.out.below HC6.out C0_5.out.lt)
    have X_6 := Lib.hid (X_5.out.below HC6.out X_5.out.lt)
    have Y_6 := Lib.hid (Y_5.out.below HC6.out Y_5.out.lt)
    have Z_6 := Lib.hid ((Box.new w5 #[.slice G20 m20 o20, .slice G21 m21 o21, .slice G22 m22 o22] 26).below hb6 (by simp only [World.size_alloc]; omega))
    have E0_6 := Lib.hid (E0_5.out.below HC6.out)
    have EX_6 := Lib.hid (EX_5.out.below HC6.out)
    clear hb6
    have HA6 := Lib.hid (show Below w6.heap.size w6 w6 from (Below.refl _ _))
    have c0_c0 := C0_6.out.cell 0
    have c0_c1 := C0_6.out.cell 1
    have c0_c2 := C0_6.out.cell 2
    have x_c0 := X_6.out.cell 0
    have x_c1 := X_6.out.cell 1
    have x_c2 := X_6.out.cell 2
    have y_c0 := Y_6.out.cell 0
    have y_c1 := Y_6.out.cell 1
    have y_c2 := Y_6.out.cell 2
    have z_c0 := Z_6.out.cell 0
    have z_c1 := Z_6.out.cell 1
    have z_c2 := Z_6.out.cell 2
    simp at c0_c0 c0_c1 c0_c2 x_c0 x_c1 x_c2 y_c0 y_c1 y_c2 z_c0 z_c1 z_c2
    have c0_l := C0_6.out.lt
    have x_l := X_6.out.lt
    have y_l := Y_6.out.lt
    have z_l := Z_6.out.lt
    go_wp2_with fail
    refine (qdSigs_t (Ty.below_w HQ2_6.out HA6.out) (Ty.below_w HQ0_6.out HA6.out)).mono ?_
    rintro e w7 ⟨rfl, hb7⟩
    clear c0_c0 c0_c1 c0_c2 x_c0 x_c1 x_c2 y_c0 y_c1 y_c2 z_c0 z_c1 z_c2 c0_l x_l y_l z_l
    have HC7 := Lib.hid (HA6.out.trans (hb7.mono HA6.out.size))
    have HW7 := Lib.hid (HW6.out.trans (HC7.out.mono HW6.out.size))
    have HD7 := Lib.hid (HD6.out.trans (HC7.out.mono HD6.out.size))
    have HR0_7 := Lib.hid (Ty.below_w HR0_6.out HC7.out)
    have HQ0_7 := Lib.hid (Ty.below_w HQ0_6.out HC7.out)
    have HQ1_7 := Lib.hid (Ty.below_w HQ1_6.out HC7.out)
    have HQ2_7 := Lib.hid (Ty.below_w HQ2_6.out HC7.out)
    have C0_7 := Lib.hid (C0_6.out.below HC7.out C0_6.out.lt)
    have X_7 := Lib.hid (X_6.out.below HC7.out X_6.out.lt)
    have Y_7 := Lib.hid (Y_6.out.below HC7.out Y_6.out.lt)
    have Z_7 := Lib.hid (Z_6.out.below HC7.out Z_6.out.lt)
    have E0_7 := Lib.hid (E0_6.out.below HC7.out)
    have EX_7 := Lib.hid (EX_6.out.below HC7.out)
    clear hb7
    have HA7 := Lib.hid (show Below w7.heap.size w7 w7 from (Below.refl _ _))
    have r1 := (show Below w5.heap.size w5 w7 from HD7.out).cell (p := ⟨bs1, as1 + k, none⟩) E0_5.out.h1 |>.trans HR1C.out
    have r2 := (show Below w5.heap.size w5 w7 from HD7.out).cell (p := ⟨bx0, ax0 + k, none⟩) EX_5.out.h0 |>.trans HR2C.out
    rw [HHERE.out (fun h => HNO.out h.1)] at r2
    have c0_c0 := C0_7.out.cell 0
    have c0_c1 := C0_7.out.cell 1
    have c0_c2 := C0_7.out.cell 2
    have x_c0 := X_7.out.cell 0
    have x_c1 := X_7.out.cell 1
    have x_c2 := X_7.out.cell 2
    have y_c0 := Y_7.out.cell 0
    have y_c1 := Y_7.out.cell 1
    have y_c2 := Y_7.out.cell 2
    have z_c0 := Z_7.out.cell 0
    have z_c1 := Z_7.out.cell 1
    have z_c2 := Z_7.out.cell 2
    simp at c0_c0 c0_c1 c0_c2 x_c0 x_c1 x_c2 y_c0 y_c1 y_c2 z_c0 z_c1 z_c2
    have c0_l := C0_7.out.lt
    have x_l := X_7.out.lt
    have y_l := Y_7.out.lt
    have z_l := Z_7.out.lt
    go_wp2_with fail
    go_ret
    exact ⟨rfl, HW7.out⟩
  have e0 : (d == 0) = false := by simpa using d0
  have HNO := Lib.hid (show ¬ doesI L0 n' = 1 from fun h => by have h2 := HD1.out.1 h; omega)
  clear d0 d1
  have HA5 := Lib.hid (show Below w5.heap.size w5 (w5.alloc (.cells #[.slice G20 m20 o20, .slice G21 m21 o21, .slice G22 m22 o22] 26)) from ((Below.refl _ _).alloc (Nat.le_refl _) _))
  have r0 := (kc HA5.out _ _ E0_5.out.h2).trans HR0C.out
  have c0_c0 := C0_5.out.cell 0
  have c0_c1 := C0_5.out.cell 1
  have c0_c2 := C0_5.out.cell 2
  have x_c0 := X_5.out.cell 0
  have x_c1 := X_5.out.cell 1
  have x_c2 := X_5.out.cell 2
  have y_c0 := Y_5.out.cell 0
  have y_c1 := Y_5.out.cell 1
  have y_c2 := Y_5.out.cell 2
  simp at c0_c0 c0_c1 c0_c2 x_c0 x_c1 x_c2 y_c0 y_c1 y_c2
  have c0_l := C0_5.out.lt
  have x_l := X_5.out.lt
  have y_l := Y_5.out.lt
  go_wp2_with fail
  refine (HOK.out (Ty.below_w HQ0_5.out HA5.out)).mono ?_
  rw [HOK1.out]
  rintro e w6 ⟨rfl, hb6⟩
  clear c0_c0 c0_c1 c0_c2 x_c0 x_c1 x_c2 y_c0 y_c1 y_c2 c0_l x_l y_l
  clear r0
  have HC6 := Lib.hid (HA5.out.trans (hb6.mono HA5.out.size))
  have HW6 := Lib.hid (HW5.out.trans (HC6.out.mono HW5.out.size))
  have HD6 := Lib.hid HC6.out
  have HR0_6 := Lib.hid (Ty.below_w HR0_5.out HC6.out)
  have HQ0_6 := Lib.hid (Ty.below_w HQ0_5.out HC6.out)
  have HQ1_6 := Lib.hid (Ty.below_w HQ1_5.out HC6.out)
  have HQ2_6 := Lib.hid (Ty.below_w HQ2_5.out HC6.out)
  have C0_6 := Lib.hid (C0_5.out.below HC6.out C0_5.out.lt)
  have X_6 := Lib.hid (X_5.out.below HC6.out X_5.out.lt)
  have Y_6 := Lib.hid (Y_5.out.below HC6.out Y_5.out.lt)
  have Z_6 := Lib.hid ((Box.new w5 #[.slice G20 m20 o20, .slice G21 m21 o21, .slice G22 m22 o22] 26).below hb6 (by simp only [World.size_alloc]; omega))
  have E0_6 := Lib.hid (E0_5.out.below HC6.out)
  have EX_6 := Lib.hid (EX_5.out.below HC6.out)
  clear hb6
  have HA6 := Lib.hid (show Below w6.heap.size w6 w6 from (Below.refl _ _))
  have c0_c0 := C0_6.out.cell 0
  have c0_c1 := C0_6.out.cell 1
  have c0_c2 := C0_6.out.cell 2
  have x_c0 := X_6.out.cell 0
  have x_c1 := X_6.out.cell 1
  have x_c2 := X_6.out.cell 2
  have y_c0 := Y_6.out.cell 0
  have y_c1 := Y_6.out.cell 1
  have y_c2 := Y_6.out.cell 2
  have z_c0 := Z_6.out.cell 0
  have z_c1 := Z_6.out.cell 1
  have z_c2 := Z_6.out.cell 2
  simp at c0_c0 c0_c1 c0_c2 x_c0 x_c1 x_c2 y_c0 y_c1 y_c2 z_c0 z_c1 z_c2
  have c0_l := C0_6.out.lt
  have x_l := X_6.out.lt
  have y_l := Y_6.out.lt
  have z_l := Z_6.out.lt
  go_wp2_with fail
  refine (qdSigs_t (Ty.below_w HQ2_6.out HA6.out) (Ty.below_w HQ0_6.out HA6.out)).mono ?_
  rintro e w7 ⟨rfl, hb7⟩
  clear c0_c0 c0_c1 c0_c2 x_c0 x_c1 x_c2 y_c0 y_c1 y_c2 z_c0 z_c1 z_c2 c0_l x_l y_l z_l
  have HC7 := Lib.hid (HA6.out.trans (hb7.mono HA6.out.size))
  have HW7 := Lib.hid (HW6.out.trans (HC7.out.mono HW6.out.size))
  have HD7 := Lib.hid (HD6.out.trans (HC7.out.mono HD6.out.size))
  have HR0_7 := Lib.hid (Ty.below_w HR0_6.out HC7.out)
  have HQ0_7 := Lib.hid (Ty.below_w HQ0_6.out HC7.out)
  have HQ1_7 := Lib.hid (Ty.below_w HQ1_6.out HC7.out)
  have HQ2_7 := Lib.hid (Ty.below_w HQ2_6.out HC7.out)
  have C0_7 := Lib.hid (C0_6.out.below HC7.out C0_6.out.lt)
  have X_7 := Lib.hid (X_6.out.below HC7.out X_6.out.lt)
  have Y_7 := Lib.hid (Y_6.out.below HC7.out Y_6.out.lt)
  have Z_7 := Lib.hid (Z_6.out.below HC7.out Z_6.out.lt)
  have E0_7 := Lib.hid (E0_6.out.below HC7.out)
  have EX_7 := Lib.hid (EX_6.out.below HC7.out)
  clear hb7
  have HA7 := Lib.hid (show Below w7.heap.size w7 w7 from (Below.refl _ _))
  have r1 := (show Below w5.heap.size w5 w7 from HD7.out).cell (p := ⟨bs1, as1 + k, none⟩) E0_5.out.h1 |>.trans HR1C.out
  have r2 := (show Below w5.heap.size w5 w7 from HD7.out).cell (p := ⟨bx0, ax0 + k, none⟩) EX_5.out.h0 |>.trans HR2C.out
  rw [HHERE.out (fun h => HNO.out h.1)] at r2
  have c0_c0 := C0_7.out.cell 0
  have c0_c1 := C0_7.out.cell 1
  have c0_c2 := C0_7.out.cell 2
  have x_c0 := X_7.out.cell 0
  have x_c1 := X_7.out.cell 1
  have x_c2 := X_7.out.cell 2
  have y_c0 := Y_7.out.cell 0
  have y_c1 := Y_7.out.cell 1
  have y_c2 := Y_7.out.cell 2
  have z_c0 := Z_7.out.cell 0
  have z_c1 := Z_7.out.cell 1
  have z_c2 := Z_7.out.cell 2
  simp at c0_c0 c0_c1 c0_c2 x_c0 x_c1 x_c2 y_c0 y_c1 y_c2 z_c0 z_c1 z_c2
  have c0_l := C0_7.out.lt
  have x_l := X_7.out.lt
  have y_l := Y_7.out.lt
  have z_l := Z_7.out.lt
  go_wp2_with fail
  go_ret
  exact ⟨rfl, HW7.out⟩
end
end Go.Proofs.Ytncinocpdeokgaa
