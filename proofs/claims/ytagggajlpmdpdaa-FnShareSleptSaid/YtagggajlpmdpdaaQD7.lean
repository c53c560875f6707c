/-
  The walk of FnShareSlept on drawn arguments.
-/
import Derived.Test.YtagggajlpmdpdaaQLaw
namespace Go.Proofs.Ytagggajlpmdpdaa
open Go.RowKit

section
variable {A : Option Addr} {n c : Nat} {w : World}
set_option maxHeartbeats 4000000 in
set_option maxRecDepth 100000 in
theorem dShareSlept_walk (hOk : QOk 24) (hSlp : QSlpM 41) (hWak : QWakM 44) (hRun : QRunM 26) {A2 : Option Addr} {n2 c2 : Nat} (hc : Code w A n) (hcap : n ≤ c) (hcap2 : c ≤ maxLen) (hd : Code w A2 n2) (_hdcap : n2 ≤ c2) (_hdcap2 : c2 ≤ maxLen) : Calls Try.prog 13 #[.slice A n c, .slice A2 n2 c2] w fun e w' => e = .returned (.bool true) ∧ Below w.heap.size w w' := by
  have hn := hc.1
  unfold maxLen at hn
  have hn2 := hd.1
  unfold maxLen at hn2
  have HCODE := Lib.hid hc
  clear hc hd
  by_cases hbig : (1048576 : Int) < n
  · go_enter Try.func13, Try.ntmps13
    go_wp2_with fail
    go_ret
    exact ⟨rfl, Below.refl _ _⟩
  by_cases hbig2 : (1048576 : Int) < n2
  · go_enter Try.func13, Try.ntmps13
    go_wp2_with fail
    go_ret
    exact ⟨rfl, Below.refl _ _⟩
  have HOK := Lib.hid hOk
  clear hOk
  have HSLP := Lib.hid hSlp
  clear hSlp
  have HWAK := Lib.hid hWak
  clear hWak
  have HRUN := Lib.hid hRun
  clear hRun
  have HW0 := Lib.hid (Below.refl w.heap.size w)
  go_enter Try.func13, Try.ntmps13
  have HA0 := Lib.hid (show Below w.heap.size w w from (Below.refl _ _))
  go_wp2_with fail
  refine (dDrawQueueSleep_any HCODE.out hcap hcap2).mono ?_
  rintro e w1 ⟨A0, n0, c0, D0, fp0, a, rfl, _, _, hm0, hf0, hl0, hcq0, hb1⟩
  have HC1 := Lib.hid (HA0.out.trans (hb1.mono HA0.out.size))
  have HW1 := Lib.hid (HW0.out.trans (HC1.out.mono HW0.out.size))
  clear hb1
  have HR0_1 := Lib.hid (tyQueue.mr hm0 fun b hb => (hf0 b hb).2)
  have HL0 := Lib.hid hl0
  have HS0 := Lib.hid (show smallQueue D0 from by unfold smallQueue; omega)
  have HK0 := Lib.hid (capQ (A := A0) hcq0)
  clear hm0 hf0 hl0 hcq0
  obtain ⟨D1, hD1⟩ : ∃ X : Qu, X = slpD D0 a := ⟨_, rfl⟩
  have HD1 := Lib.hid hD1
  clear hD1
  have HA1 := Lib.hid (show Below w1.heap.size w1 (w1.alloc (.cells #[.slice A0 n0 c0, .int .i64 D0.2] 25)) from ((Below.refl _ _).alloc (Nat.le_refl _) _))
  go_wp2_with fail
  refine (HSLP.out a (Ty.below_w HR0_1.out HA1.out) HS0.out HK0.out).mono ?_
  rintro e w2 ⟨p10, p11, fp1, rfl, hm1, hf1, hs1, hk1, hb2⟩
  have HC2 := Lib.hid (HA1.out.trans (hb2.mono HA1.out.size))
  have HW2 := Lib.hid (HW1.out.trans (HC2.out.mono HW1.out.size))
  have HR0_2 := Lib.hid (Ty.below_w HR0_1.out HC2.out)
  have C0_2 := Lib.hid ((Box.new w1 #[.slice A0 n0 c0, .int .i64 D0.2] 25).below hb2 (by simp only [World.size_alloc]; omega))
  clear hb2
  rw [← HD1.out] at hm1 hs1
  obtain ⟨E1, m1, o1, hcs⟩ := tyQueue_shM hm1
  simp only [List.cons.injEq, and_true] at hcs
  obtain ⟨rfl, rfl⟩ := hcs
  have HQ1_2 := Lib.hid (tyQueue.mr hm1 fun b hb => (hf1 b hb).2)
  have HS1 := Lib.hid hs1
  have HK1 := Lib.hid hk1
  clear hm1 hf1 hs1 hk1
  have HA2 := Lib.hid (show Below w2.heap.size w2 (w2.alloc (.cells #[.slice E1 m1 o1, .int .i64 (D1).2] 25)) from ((Below.refl _ _).alloc (Nat.le_refl _) _))
  have c0_c0 := C0_2.out.cell 0
  have c0_c1 := C0_2.out.cell 1
  simp at c0_c0 c0_c1
  have c0_l := C0_2.out.lt
  go_wp2_with fail
  refine (queueSleep_s a (Ty.below_w HR0_2.out HA2.out) HS0.out HK0.out).mono ?_
  rintro e w3 ⟨p20, p21, rfl, hm2, hb3⟩
  clear c0_c0 c0_c1 c0_l
  have HC3 := Lib.hid (HA2.out.trans (hb3.mono HA2.out.size))
  have HW3 := Lib.hid (HW2.out.trans (HC3.out.mono HW2.out.size))
  have HR0_3 := Lib.hid (Ty.below_w HR0_2.out HC3.out)
  have HQ1_3 := Lib.hid (Ty.below_w HQ1_2.out HC3.out)
  have C0_3 := Lib.hid (C0_2.out.below HC3.out C0_2.out.lt)
  have X_3 := Lib.hid ((Box.new w2 #[.slice E1 m1 o1, .int .i64 (D1).2] 25).below hb3 (by simp only [World.size_alloc]; omega))
  clear hb3
  rw [← HD1.out] at hm2
  obtain ⟨E2, m2, o2, hcs⟩ := tyQueue_sh hm2
  simp only [List.cons.injEq, and_true] at hcs
  obtain ⟨rfl, rfl⟩ := hcs
  have HQ2_3 := Lib.hid (hm2)
  clear hm2
  have hbb : (hasB D0 a != hasB D0 a) = false := by simp
  have HA3 := Lib.hid (show Below w3.heap.size w3 (w3.alloc (.cells #[.slice E2 m2 o2, .int .i64 (D1).2] 25)) from ((Below.refl _ _).alloc (Nat.le_refl _) _))
  have c0_c0 := C0_3.out.cell 0
  have c0_c1 := C0_3.out.cell 1
  have x_c0 := X_3.out.cell 0
  have x_c1 := X_3.out.cell 1
  simp at c0_c0 c0_c1 x_c0 x_c1
  have c0_l := C0_3.out.lt
  have x_l := X_3.out.lt
  go_wp2_with fail
  refine (qdQueue_t (Ty.below_w HQ1_3.out HA3.out) (Ty.below_w HQ2_3.out HA3.out)).mono ?_
  rintro e w4 ⟨rfl, hb4⟩
  clear c0_c0 c0_c1 x_c0 x_c1 c0_l x_l
  have HC4 := Lib.hid (HA3.out.trans (hb4.mono HA3.out.size))
  have HW4 := Lib.hid (HW3.out.trans (HC4.out.mono HW3.out.size))
  have HR0_4 := Lib.hid (Ty.below_w HR0_3.out HC4.out)
  have HQ1_4 := Lib.hid (Ty.below_w HQ1_3.out HC4.out)
  have HQ2_4 := Lib.hid (Ty.below_w HQ2_3.out HC4.out)
  have C0_4 := Lib.hid (C0_3.out.below HC4.out C0_3.out.lt)
  have X_4 := Lib.hid (X_3.out.below HC4.out X_3.out.lt)
  have Y_4 := Lib.hid ((Box.new w3 #[.slice E2 m2 o2, .int .i64 (D1).2] 25).below hb4 (by simp only [World.size_alloc]; omega))
  clear hb4
  clear hbb
  by_cases h0 : hasB D0 a = true
  case neg =>
    have h0' : hasB D0 a = false := by simpa using h0
    rw [h0']
    clear h0
    have HA4 := Lib.hid (show Below w4.heap.size w4 w4 from (Below.refl _ _))
    have c0_c0 := C0_4.out.cell 0
    have c0_c1 := C0_4.out.cell 1
    have x_c0 := X_4.out.cell 0
    have x_c1 := X_4.out.cell 1
    have y_c0 := Y_4.out.cell 0
    have y_c1 := Y_4.out.cell 1
    simp at c0_c0 c0_c1 x_c0 x_c1 y_c0 y_c1
    have c0_l := C0_4.out.lt
    have x_l := X_4.out.lt
    have y_l := Y_4.out.lt
    go_wp2_with fail
    refine (qdQueue_t (Ty.below_w HQ1_4.out HA4.out) (Ty.below_w HQ2_4.out HA4.out)).mono ?_
    rintro e w5 ⟨rfl, hb5⟩
    clear c0_c0 c0_c1 x_c0 x_c1 y_c0 y_c1 c0_l x_l y_l
    have HC5 := Lib.hid (HA4.out.trans (hb5.mono HA4.out.size))
    have HW5 := Lib.hid (HW4.out.trans (HC5.out.mono HW4.out.size))
    have HR0_5 := Lib.hid (Ty.below_w HR0_4.out HC5.out)
    have HQ1_5 := Lib.hid (Ty.below_w HQ1_4.out HC5.out)
    have HQ2_5 := Lib.hid (Ty.below_w HQ2_4.out HC5.out)
    have C0_5 := Lib.hid (C0_4.out.below HC5.out C0_4.out.lt)
    have X_5 := Lib.hid (X_4.out.below HC5.out X_4.out.lt)
    have Y_5 := Lib.hid (Y_4.out.below HC5.out Y_4.out.lt)
    clear hb5
    have HA5 := Lib.hid (show Below w5.heap.size w5 w5 from (Below.refl _ _))
    have c0_c0 := C0_5.out.cell 0
    have c0_c1 := C0_5.out.cell 1
    have x_c0 := X_5.out.cell 0
    have x_c1 := X_5.out.cell 1
    have y_c0 := Y_5.out.cell 0
    have y_c1 := Y_5.out.cell 1
    simp at c0_c0 c0_c1 x_c0 x_c1 y_c0 y_c1
    have c0_l := C0_5.out.lt
    have x_l := X_5.out.lt
    have y_l := Y_5.out.lt
    go_wp2_with fail
    go_ret
    exact ⟨rfl, HW5.out⟩
  have HSL := Lib.hid (fun nn h => slept_law (n := nn) h0 h)
  rw [← HD1.out] at HSL
  rw [h0]
  clear h0
  have HA4 := Lib.hid (show Below w4.heap.size w4 w4 from (Below.refl _ _))
  have c0_c0 := C0_4.out.cell 0
  have c0_c1 := C0_4.out.cell 1
  have x_c0 := X_4.out.cell 0
  have x_c1 := X_4.out.cell 1
  have y_c0 := Y_4.out.cell 0
  have y_c1 := Y_4.out.cell 1
  simp at c0_c0 c0_c1 x_c0 x_c1 y_c0 y_c1
  have c0_l := C0_4.out.lt
  have x_l := X_4.out.lt
  have y_l := Y_4.out.lt
  go_wp2_with fail
  refine (HRUN.out _ (Ty.below_w HQ1_4.out HA4.out) HS1.out HK1.out).mono ?_
  rintro e w5 ⟨p30, p31, fp3, I3, i3, j3, fi3, rfl, hm3, hf3, hs3, hk3, hi3, hfi3, hl3, hn3, hb5⟩
  clear c0_c0 c0_c1 x_c0 x_c1 y_c0 y_c1 c0_l x_l y_l
  have HC5 := Lib.hid (HA4.out.trans (hb5.mono HA4.out.size))
  have HW5 := Lib.hid (HW4.out.trans (HC5.out.mono HW4.out.size))
  have HR0_5 := Lib.hid (Ty.below_w HR0_4.out HC5.out)
  have HQ1_5 := Lib.hid (Ty.below_w HQ1_4.out HC5.out)
  have HQ2_5 := Lib.hid (Ty.below_w HQ2_4.out HC5.out)
  have C0_5 := Lib.hid (C0_4.out.below HC5.out C0_4.out.lt)
  have X_5 := Lib.hid (X_4.out.below HC5.out X_4.out.lt)
  have Y_5 := Lib.hid (Y_4.out.below HC5.out Y_4.out.lt)
  clear hb5
  generalize (n2 : Int) % 50 = nr at hm3 hs3 hi3 hl3 ⊢
  clear hi3 hfi3 hl3 hn3
  by_cases hr : (runQ D1 nr).isSome = true
  case neg =>
    have hr' : (runQ D1 nr).isSome = false := by simpa using hr
    rw [hr']
    clear hr hr'
    generalize runD D1 nr = RD at hm3 hs3
    obtain ⟨E3, m3, o3, hcs⟩ := tyQueue_shM hm3
    simp only [List.cons.injEq, and_true] at hcs
    obtain ⟨rfl, rfl⟩ := hcs
    have HQ3_5 := Lib.hid (tyQueue.mr hm3 fun b hb => (hf3 b hb).2)
    have HS3 := Lib.hid hs3
    have HK3 := Lib.hid hk3
    clear hm3 hf3 hs3 hk3
    have HA5 := Lib.hid (show Below w5.heap.size w5 (w5.alloc (.cells #[.slice E3 m3 o3, .int .i64 (RD).2] 25)) from ((Below.refl _ _).alloc (Nat.le_refl _) _))
    have c0_c0 := C0_5.out.cell 0
    have c0_c1 := C0_5.out.cell 1
    have x_c0 := X_5.out.cell 0
    have x_c1 := X_5.out.cell 1
    have y_c0 := Y_5.out.cell 0
    have y_c1 := Y_5.out.cell 1
    simp at c0_c0 c0_c1 x_c0 x_c1 y_c0 y_c1
    have c0_l := C0_5.out.lt
    have x_l := X_5.out.lt
    have y_l := Y_5.out.lt
    go_wp2_with fail
    go_ret
    exact ⟨rfl, HW5.out.trans (HA5.out.mono HW5.out.size)⟩
  have hsl := HSL.out nr hr
  rw [hr]
  clear hr HSL
  generalize runD D1 nr = RD at hm3 hs3 hsl
  have HHB := Lib.hid hsl.1
  have HWK := Lib.hid (wak_law hsl.1).1
  have HJ := Lib.hid hsl.2
  clear hsl
  obtain ⟨E3, m3, o3, hcs⟩ := tyQueue_shM hm3
  simp only [List.cons.injEq, and_true] at hcs
  obtain ⟨rfl, rfl⟩ := hcs
  have HQ3_5 := Lib.hid (tyQueue.mr hm3 fun b hb => (hf3 b hb).2)
  have HS3 := Lib.hid hs3
  have HK3 := Lib.hid hk3
  clear hm3 hf3 hs3 hk3
  have HA5 := Lib.hid (show Below w5.heap.size w5 (w5.alloc (.cells #[.slice E3 m3 o3, .int .i64 (RD).2] 25)) from ((Below.refl _ _).alloc (Nat.le_refl _) _))
  have c0_c0 := C0_5.out.cell 0
  have c0_c1 := C0_5.out.cell 1
  have x_c0 := X_5.out.cell 0
  have x_c1 := X_5.out.cell 1
  have y_c0 := Y_5.out.cell 0
  have y_c1 := Y_5.out.cell 1
  simp at c0_c0 c0_c1 x_c0 x_c1 y_c0 y_c1
  have c0_l := C0_5.out.lt
  have x_l := X_5.out.lt
  have y_l := Y_5.out.lt
  go_wp2_with fail
  refine (HWAK.out a (Ty.below_w HQ3_5.out HA5.out) HS3.out HK3.out).mono ?_
  rintro e w6 ⟨p40, p41, fp4, rfl, hm4, hf4, hs4, hk4, hb6⟩
  clear c0_c0 c0_c1 x_c0 x_c1 y_c0 y_c1 c0_l x_l y_l
  have HC6 := Lib.hid (HA5.out.trans (hb6.mono HA5.out.size))
  have HW6 := Lib.hid (HW5.out.trans (HC6.out.mono HW5.out.size))
  have HR0_6 := Lib.hid (Ty.below_w HR0_5.out HC6.out)
  have HQ1_6 := Lib.hid (Ty.below_w HQ1_5.out HC6.out)
  have HQ2_6 := Lib.hid (Ty.below_w HQ2_5.out HC6.out)
  have HQ3_6 := Lib.hid (Ty.below_w HQ3_5.out HC6.out)
  have C0_6 := Lib.hid (C0_5.out.below HC6.out C0_5.out.lt)
  have X_6 := Lib.hid (X_5.out.below HC6.out X_5.out.lt)
  have Y_6 := Lib.hid (Y_5.out.below HC6.out Y_5.out.lt)
  have Z_6 := Lib.hid ((Box.new w5 #[.slice E3 m3 o3, .int .i64 (RD).2] 25).below hb6 (by simp only [World.size_alloc]; omega))
  clear hb6
  rw [HHB.out]
  generalize wakD RD a = WD at hm4 hs4 HWK HJ
  obtain ⟨E4, m4, o4, hcs⟩ := tyQueue_shM hm4
  simp only [List.cons.injEq, and_true] at hcs
  obtain ⟨rfl, rfl⟩ := hcs
  have HQ4_6 := Lib.hid (tyQueue.mr hm4 fun b hb => (hf4 b hb).2)
  have HS4 := Lib.hid hs4
  have HK4 := Lib.hid hk4
  clear hm4 hf4 hs4 hk4
  have HA6 := Lib.hid (show Below w6.heap.size w6 (w6.alloc (.cells #[.slice E4 m4 o4, .int .i64 (WD).2] 25)) from ((Below.refl _ _).alloc (Nat.le_refl _) _))
  have HRT := Lib.hid (qR_row HQ4_6.out)
  have HLN := Lib.hid (qR_len HQ4_6.out)
  have hm6 : m4 ≤ 1048576 := by have h := HS4.out; unfold smallQueue at h; rw [HLN.out] at h; exact h
  have V_9 := Lib.hid (Box.new w6 #[.slice E4 m4 o4, .int .i64 WD.2] 25)
  have Z_9 := Lib.hid (Z_6.out.below HA6.out Z_6.out.lt)
  have c0_c0 := C0_6.out.cell 0
  have c0_c1 := C0_6.out.cell 1
  have x_c0 := X_6.out.cell 0
  have x_c1 := X_6.out.cell 1
  have y_c0 := Y_6.out.cell 0
  have y_c1 := Y_6.out.cell 1
  have z_c0 := Z_6.out.cell 0
  have z_c1 := Z_6.out.cell 1
  simp at c0_c0 c0_c1 x_c0 x_c1 y_c0 y_c1 z_c0 z_c1
  have c0_l := C0_6.out.lt
  have x_l := X_6.out.lt
  have y_l := Y_6.out.lt
  have z_l := Z_6.out.lt
  go_wp2_with fail
  go_loopw [16] (fun i wr => ∃ k : Nat, k ≤ m4 ∧ i = .int .i64 k ∧ Box wr w6.heap.size #[.slice E4 m4 o4, .int .i64 WD.2] 25 ∧ Box wr w5.heap.size #[.slice E3 m3 o3, .int .i64 RD.2] 25 ∧ Below w6.heap.size w6 wr) (fun i _ => m4 - (intOf i).toNat)
  case atStart => exact ⟨0, Nat.zero_le _, rfl, V_9.out, Z_9.out, HA6.out⟩
  case round =>
    obtain ⟨k, hk, rfl, hv, hz, hb⟩ := hrel
    clear V_9 Z_9 c0_c0 c0_c1 x_c0 x_c1 y_c0 y_c1 z_c0 z_c1 c0_l x_l y_l z_l
    have V1 := Lib.hid hv
    have Z1 := Lib.hid hz
    have HB := Lib.hid hb
    clear hv hz hb
    have v0 := V1.out.cell 0
    have v1 := V1.out.cell 1
    have z1 := Z1.out.cell 1
    have vl := V1.out.lt
    have zl := Z1.out.lt
    simp at v0 v1 z1
    by_cases hlt : k < m4
    · obtain ⟨b, o, rfl, hb0, hcs⟩ := HRT.out (by omega)
      have hk1 : (k : Int) < m4 := by omega
      have hk2 : (0 : Int) ≤ k := by omega
      obtain ⟨t0, t1, t2, t3⟩ := (hcs k hlt).below HB.out hb0
      have hj := HJ.out k (by rw [HLN.out]; exact hlt)
      clear hcs t1 t3
      generalize (tA WD.1 k).f0 = f0 at t0 hj
      generalize (tA WD.1 k).f2 = f2 at t2 hj
      by_cases hf : f0 = a
      · subst hf
        have hge := hj rfl
        have hnl : ¬ f2 < RD.2 := by omega
        clear hj hge
        go_wp2_with fail
        go_quiet (fail)
        go_wp2_with fail
        go_roundw
        case rel => exact ⟨k + 1, by omega, by go_num, V1.out, Z1.out, bel_drewN HB.out _⟩
        case measure => simp [intOf]; omega
      · have hq : (f0 == a) = false := by rw [beq_eq_false_iff_ne]; exact hf
        clear hj hf
        go_wp2_with fail
        go_quiet (fail)
        go_wp2_with fail
        go_roundw
        case rel => exact ⟨k + 1, by omega, by go_num, V1.out, Z1.out, bel_drewN HB.out _⟩
        case measure => simp [intOf]; omega
    · obtain rfl : k = m4 := by omega
      clear hlt
      go_wp2_with fail
      refine (HOK.out (Ty.below_w HQ4_6.out HB.out)).mono ?_
      rintro e w9 ⟨rfl, hb9⟩
      rw [HWK.out]
      have HE := Lib.hid (HW6.out.trans ((HB.out.trans (hb9.mono HB.out.size)).mono HW6.out.size))
      clear hb9 v0 v1 z1 vl zl
      go_wp2_with fail
      go_ret
      exact ⟨rfl, HE.out⟩
end
end Go.Proofs.Ytagggajlpmdpdaa
