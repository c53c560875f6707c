/-
  The walk of FnQueueWake on drawn arguments.
-/
import Derived.Test.YtagggajlpmdpdaaQLaw
namespace Go.Proofs.Ytagggajlpmdpdaa
open Go.RowKit

section
variable {A : Option Addr} {n c : Nat} {w : World}
set_option maxHeartbeats 4000000 in
set_option maxRecDepth 100000 in
theorem dQueueWake_walk (hOk : QOk 24) (hWak : QWakM 44) (hc : Code w A n) (hcap : n ≤ c) (hcap2 : c ≤ maxLen) : Calls Try.prog 9 #[.slice A n c] w fun e w' => e = .returned (.bool true) ∧ Below w.heap.size w w' := by
  have hn := hc.1
  unfold maxLen at hn
  by_cases hbig : (1048576 : Int) < n
  · go_enter Try.func9, Try.ntmps9
    go_wp2_with fail
    go_ret
    exact ⟨rfl, Below.refl _ _⟩
  have HCODE := Lib.hid hc
  clear hc
  have HOK := Lib.hid hOk
  clear hOk
  have HWAK := Lib.hid hWak
  clear hWak
  have HW0 := Lib.hid (Below.refl w.heap.size w)
  go_enter Try.func9, Try.ntmps9
  have HA0 := Lib.hid (show Below w.heap.size w w from (Below.refl _ _))
  go_wp2_with fail
  refine (dDrawQueueWake_any HCODE.out hcap hcap2).mono ?_
  rintro e w1 ⟨A0, n0, c0, D0, fp0, a, rfl, _, _, hm0, hf0, hl0, hcq0, hb1⟩
  have HC1 := Lib.hid (HA0.out.trans (hb1.mono HA0.out.size))
  have HW1 := Lib.hid (HW0.out.trans (HC1.out.mono HW0.out.size))
  clear hb1
  have HR0_1 := Lib.hid (tyQueue.mr hm0 fun b hb => (hf0 b hb).2)
  have HL0 := Lib.hid hl0
  have HS0 := Lib.hid (show smallQueue D0 from by unfold smallQueue; omega)
  have HK0 := Lib.hid (capQ (A := A0) hcq0)
  clear hm0 hf0 hl0 hcq0
  obtain ⟨D1, hD1⟩ : ∃ X : Qu, X = wakD D0 a := ⟨_, rfl⟩
  have HD1 := Lib.hid hD1
  clear hD1
  have HA1 := Lib.hid (show Below w1.heap.size w1 (w1.alloc (.cells #[.slice A0 n0 c0, .int .i64 D0.2] 25)) from ((Below.refl _ _).alloc (Nat.le_refl _) _))
  go_wp2_with fail
  refine (HWAK.out a (Ty.below_w HR0_1.out HA1.out) HS0.out HK0.out).mono ?_
  rintro e w2 ⟨p10, p11, fp1, rfl, hm1, hf1, hs1, hk1, hb2⟩
  have HC2 := Lib.hid (HA1.out.trans (hb2.mono HA1.out.size))
  have HW2 := Lib.hid (HW1.out.trans (HC2.out.mono HW1.out.size))
  have HR0_2 := Lib.hid (Ty.below_w HR0_1.out HC2.out)
  have C0_2 := Lib.hid ((Box.new w1 #[.slice A0 n0 c0, .int .i64 D0.2] 25).below hb2 (by simp only [World.size_alloc]; omega))
  clear hb2
  rw [← HD1.out] at hm1 hs1
  obtain ⟨E1, m1, o1, hcs⟩ := tyQueue_shM hm1
  simp only [List.cons.injEq, and_true] at hcs
  obtain ⟨rfl, rfl⟩ := hcs
  have HQ1_2 := Lib.hid (tyQueue.mr hm1 fun b hb => (hf1 b hb).2)
  have HS1 := Lib.hid hs1
  have HK1 := Lib.hid hk1
  clear hm1 hf1 hs1 hk1
  have HA2 := Lib.hid (show Below w2.heap.size w2 (w2.alloc (.cells #[.slice E1 m1 o1, .int .i64 (D1).2] 25)) from ((Below.refl _ _).alloc (Nat.le_refl _) _))
  have c0_c0 := C0_2.out.cell 0
  have c0_c1 := C0_2.out.cell 1
  simp at c0_c0 c0_c1
  have c0_l := C0_2.out.lt
  go_wp2_with fail
  refine (queueWake_s a (Ty.below_w HR0_2.out HA2.out) HS0.out HK0.out).mono ?_
  rintro e w3 ⟨p20, p21, rfl, hm2, hb3⟩
  clear c0_c0 c0_c1 c0_l
  have HC3 := Lib.hid (HA2.out.trans (hb3.mono HA2.out.size))
  have HW3 := Lib.hid (HW2.out.trans (HC3.out.mono HW2.out.size))
  have HR0_3 := Lib.hid (Ty.below_w HR0_2.out HC3.out)
  have HQ1_3 := Lib.hid (Ty.below_w HQ1_2.out HC3.out)
  have C0_3 := Lib.hid (C0_2.out.below HC3.out C0_2.out.lt)
  have X_3 := Lib.hid ((Box.new w2 #[.slice E1 m1 o1, .int .i64 (D1).2] 25).below hb3 (by simp only [World.size_alloc]; omega))
  clear hb3
  rw [← HD1.out] at hm2
  obtain ⟨E2, m2, o2, hcs⟩ := tyQueue_sh hm2
  simp only [List.cons.injEq, and_true] at hcs
  obtain ⟨rfl, rfl⟩ := hcs
  have HQ2_3 := Lib.hid (hm2)
  clear hm2
  have HA3 := Lib.hid (show Below w3.heap.size w3 (w3.alloc (.cells #[.slice E2 m2 o2, .int .i64 (D1).2] 25)) from ((Below.refl _ _).alloc (Nat.le_refl _) _))
  have c0_c0 := C0_3.out.cell 0
  have c0_c1 := C0_3.out.cell 1
  have x_c0 := X_3.out.cell 0
  have x_c1 := X_3.out.cell 1
  simp at c0_c0 c0_c1 x_c0 x_c1
  have c0_l := C0_3.out.lt
  have x_l := X_3.out.lt
  go_wp2_with fail
  refine (qdQueue_t (Ty.below_w HQ1_3.out HA3.out) (Ty.below_w HQ2_3.out HA3.out)).mono ?_
  rintro e w4 ⟨rfl, hb4⟩
  clear c0_c0 c0_c1 x_c0 x_c1 c0_l x_l
  have HC4 := Lib.hid (HA3.out.trans (hb4.mono HA3.out.size))
  have HW4 := Lib.hid (HW3.out.trans (HC4.out.mono HW3.out.size))
  have HR0_4 := Lib.hid (Ty.below_w HR0_3.out HC4.out)
  have HQ1_4 := Lib.hid (Ty.below_w HQ1_3.out HC4.out)
  have HQ2_4 := Lib.hid (Ty.below_w HQ2_3.out HC4.out)
  have C0_4 := Lib.hid (C0_3.out.below HC4.out C0_3.out.lt)
  have X_4 := Lib.hid (X_3.out.below HC4.out X_3.out.lt)
  have Y_4 := Lib.hid ((Box.new w3 #[.slice E2 m2 o2, .int .i64 (D1).2] 25).below hb4 (by simp only [World.size_alloc]; omega))
  clear hb4
  have hbb : (hasB D0 a == hasB D0 a) = true := by simp
  by_cases h0 : hasB D0 a = true
  case neg =>
    have h0' : hasB D0 a = false := by simpa using h0
    rw [h0']
    clear h0
    have HA4 := Lib.hid (show Below w4.heap.size w4 w4 from (Below.refl _ _))
    have c0_c0 := C0_4.out.cell 0
    have c0_c1 := C0_4.out.cell 1
    have x_c0 := X_4.out.cell 0
    have x_c1 := X_4.out.cell 1
    have y_c0 := Y_4.out.cell 0
    have y_c1 := Y_4.out.cell 1
    simp at c0_c0 c0_c1 x_c0 x_c1 y_c0 y_c1
    have c0_l := C0_4.out.lt
    have x_l := X_4.out.lt
    have y_l := Y_4.out.lt
    go_wp2_with fail
    go_ret
    exact ⟨rfl, HW4.out⟩
  clear hbb
  have hlw := wak_law h0
  rw [← HD1.out] at hlw
  have H1 := Lib.hid hlw.1
  have H2 := Lib.hid hlw.2.1
  have H3 := Lib.hid hlw.2.2.1
  rw [h0]
  clear h0 hlw
  have HA4 := Lib.hid (show Below w4.heap.size w4 w4 from (Below.refl _ _))
  have c0_c0 := C0_4.out.cell 0
  have c0_c1 := C0_4.out.cell 1
  have x_c0 := X_4.out.cell 0
  have x_c1 := X_4.out.cell 1
  have y_c0 := Y_4.out.cell 0
  have y_c1 := Y_4.out.cell 1
  simp at c0_c0 c0_c1 x_c0 x_c1 y_c0 y_c1
  have c0_l := C0_4.out.lt
  have x_l := X_4.out.lt
  have y_l := Y_4.out.lt
  go_wp2_with fail
  refine (HWAK.out a (Ty.below_w HQ1_4.out HA4.out) HS1.out HK1.out).mono ?_
  rintro e w5 ⟨p30, p31, fp3, rfl, hm3, hf3, hs3, hk3, hb5⟩
  clear c0_c0 c0_c1 x_c0 x_c1 y_c0 y_c1 c0_l x_l y_l
  have HC5 := Lib.hid (HA4.out.trans (hb5.mono HA4.out.size))
  have HW5 := Lib.hid (HW4.out.trans (HC5.out.mono HW4.out.size))
  have HR0_5 := Lib.hid (Ty.below_w HR0_4.out HC5.out)
  have HQ1_5 := Lib.hid (Ty.below_w HQ1_4.out HC5.out)
  have HQ2_5 := Lib.hid (Ty.below_w HQ2_4.out HC5.out)
  have C0_5 := Lib.hid (C0_4.out.below HC5.out C0_4.out.lt)
  have X_5 := Lib.hid (X_4.out.below HC5.out X_4.out.lt)
  have Y_5 := Lib.hid (Y_4.out.below HC5.out Y_4.out.lt)
  clear hb5
  rw [H3.out] at hm3 hs3
  obtain ⟨E3, m3, o3, hcs⟩ := tyQueue_shM hm3
  simp only [List.cons.injEq, and_true] at hcs
  obtain ⟨rfl, rfl⟩ := hcs
  have HQ3_5 := Lib.hid (tyQueue.mr hm3 fun b hb => (hf3 b hb).2)
  have HS3 := Lib.hid hs3
  have HK3 := Lib.hid hk3
  clear hm3 hf3 hs3 hk3
  rw [H2.out]
  have HA5 := Lib.hid (show Below w5.heap.size w5 (w5.alloc (.cells #[.slice E3 m3 o3, .int .i64 (D1).2] 25)) from ((Below.refl _ _).alloc (Nat.le_refl _) _))
  have c0_c0 := C0_5.out.cell 0
  have c0_c1 := C0_5.out.cell 1
  have x_c0 := X_5.out.cell 0
  have x_c1 := X_5.out.cell 1
  have y_c0 := Y_5.out.cell 0
  have y_c1 := Y_5.out.cell 1
  simp at c0_c0 c0_c1 x_c0 x_c1 y_c0 y_c1
  have c0_l := C0_5.out.lt
  have x_l := X_5.out.lt
  have y_l := Y_5.out.lt
  go_wp2_with fail
  refine (HOK.out (Ty.below_w HQ1_5.out HA5.out)).mono ?_
  rintro e w6 ⟨rfl, hb6⟩
  clear c0_c0 c0_c1 x_c0 x_c1 y_c0 y_c1 c0_l x_l y_l
  have HC6 := Lib.hid (HA5.out.trans (hb6.mono HA5.out.size))
  have HW6 := Lib.hid (HW5.out.trans (HC6.out.mono HW5.out.size))
  have HR0_6 := Lib.hid (Ty.below_w HR0_5.out HC6.out)
  have HQ1_6 := Lib.hid (Ty.below_w HQ1_5.out HC6.out)
  have HQ2_6 := Lib.hid (Ty.below_w HQ2_5.out HC6.out)
  have HQ3_6 := Lib.hid (Ty.below_w HQ3_5.out HC6.out)
  have C0_6 := Lib.hid (C0_5.out.below HC6.out C0_5.out.lt)
  have X_6 := Lib.hid (X_5.out.below HC6.out X_5.out.lt)
  have Y_6 := Lib.hid (Y_5.out.below HC6.out Y_5.out.lt)
  have Z_6 := Lib.hid ((Box.new w5 #[.slice E3 m3 o3, .int .i64 (D1).2] 25).below hb6 (by simp only [World.size_alloc]; omega))
  clear hb6
  rw [H1.out]
  have HA6 := Lib.hid (show Below w6.heap.size w6 w6 from (Below.refl _ _))
  have c0_c0 := C0_6.out.cell 0
  have c0_c1 := C0_6.out.cell 1
  have x_c0 := X_6.out.cell 0
  have x_c1 := X_6.out.cell 1
  have y_c0 := Y_6.out.cell 0
  have y_c1 := Y_6.out.cell 1
  have z_c0 := Z_6.out.cell 0
  have z_c1 := Z_6.out.cell 1
  simp at c0_c0 c0_c1 x_c0 x_c1 y_c0 y_c1 z_c0 z_c1
  have c0_l := C0_6.out.lt
  have x_l := X_6.out.lt
  have y_l := Y_6.out.lt
  have z_l := Z_6.out.lt
  go_wp2_with fail
  refine (qdQueue_t (Ty.below_w HQ3_6.out HA6.out) (Ty.below_w HQ1_6.out HA6.out)).mono ?_
  rintro e w7 ⟨rfl, hb7⟩
  clear c0_c0 c0_c1 x_c0 x_c1 y_c0 y_c1 z_c0 z_c1 c0_l x_l y_l z_l
  have HC7 := Lib.hid (HA6.out.trans (hb7.mono HA6.out.size))
  have HW7 := Lib.hid (HW6.out.trans (HC7.out.mono HW6.out.size))
  have HR0_7 := Lib.hid (Ty.below_w HR0_6.out HC7.out)
  have HQ1_7 := Lib.hid (Ty.below_w HQ1_6.out HC7.out)
  have HQ2_7 := Lib.hid (Ty.below_w HQ2_6.out HC7.out)
  have HQ3_7 := Lib.hid (Ty.below_w HQ3_6.out HC7.out)
  have C0_7 := Lib.hid (C0_6.out.below HC7.out C0_6.out.lt)
  have X_7 := Lib.hid (X_6.out.below HC7.out X_6.out.lt)
  have Y_7 := Lib.hid (Y_6.out.below HC7.out Y_6.out.lt)
  have Z_7 := Lib.hid (Z_6.out.below HC7.out Z_6.out.lt)
  clear hb7
  have HA7 := Lib.hid (show Below w7.heap.size w7 w7 from (Below.refl _ _))
  have c0_c0 := C0_7.out.cell 0
  have c0_c1 := C0_7.out.cell 1
  have x_c0 := X_7.out.cell 0
  have x_c1 := X_7.out.cell 1
  have y_c0 := Y_7.out.cell 0
  have y_c1 := Y_7.out.cell 1
  have z_c0 := Z_7.out.cell 0
  have z_c1 := Z_7.out.cell 1
  simp at c0_c0 c0_c1 x_c0 x_c1 y_c0 y_c1 z_c0 z_c1
  have c0_l := C0_7.out.lt
  have x_l := X_7.out.lt
  have y_l := Y_7.out.lt
  have z_l := Z_7.out.lt
  go_wp2_with fail
  go_ret
  exact ⟨rfl, HW7.out⟩
end
end Go.Proofs.Ytagggajlpmdpdaa
