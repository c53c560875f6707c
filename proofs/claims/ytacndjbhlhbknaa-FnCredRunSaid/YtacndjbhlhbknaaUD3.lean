/-
  The walk of FnCredRun on drawn arguments.
-/
import Derived.Test.YtacndjbhlhbknaaUD1
import Derived.Test.YtacndjbhlhbknaaTqCred
namespace Go.Proofs.Ytacndjbhlhbknaa
open Go.RowKit

section
variable {A : Option Addr} {n c : Nat} {w : World}
set_option maxHeartbeats 4000000 in
set_option maxRecDepth 100000 in
theorem dCredRun_walk (hm : CRunM 37) (hb : CBecM 22) (hc : Code w A n) (hcap : n ≤ c) (hcap2 : c ≤ maxLen) : Calls Try.prog 8 #[.slice A n c] w fun e w' => e = .returned (.bool true) ∧ Below w.heap.size w w' := by
  have hn := hc.1
  unfold maxLen at hn
  by_cases hbig : (1048576 : Int) < n
  · go_enter Try.func8, Try.ntmps8
    go_wp2_with fail
    go_ret
    exact ⟨rfl, Below.refl _ _⟩
  have HCODE := Lib.hid hc
  clear hc
  have HM := Lib.hid hm
  clear hm
  have HB := Lib.hid hb
  clear hb
  have HW0 := Lib.hid (Below.refl w.heap.size w)
  go_enter Try.func8, Try.ntmps8
  have HA0 := Lib.hid (show Below w.heap.size w w from (Below.refl _ _))
  go_wp2_with fail
  refine (dDrawCredRun_any HCODE.out hcap hcap2).mono ?_
  rintro e w1 ⟨y00, y01, y02, D0, x, rfl, xl, xu, hr0, hs0, hb1⟩
  have HC1 := Lib.hid (HA0.out.trans (hb1.mono HA0.out.size))
  have HW1 := Lib.hid (HW0.out.trans (HC1.out.mono HW0.out.size))
  clear hb1
  obtain ⟨A0, n0, c0, hcs⟩ := tyCred_sh hr0
  simp only [List.cons.injEq, and_true] at hcs
  obtain ⟨rfl, rfl, rfl⟩ := hcs
  obtain ⟨u0, v0, l0⟩ := D0
  dsimp only at hr0 ⊢
  have HS0 := Lib.hid hs0
  have HR0_1 := Lib.hid (hr0)
  clear hr0 hs0
  have HA1 := Lib.hid (show Below w1.heap.size w1 (w1.alloc (.cells #[.int .i64 u0, .int .i64 v0, .slice A0 n0 c0] 25)) from ((Below.refl _ _).alloc (Nat.le_refl _) _))
  go_wp2_with fail
  refine (HM.out x (Ty.below_w HR0_1.out HA1.out) HS0.out).mono ?_
  rintro e w2 ⟨a0, a1, a2, fp0, rfl, hm0, hf0, hsm0, hb2⟩
  have HC2 := Lib.hid (HA1.out.trans (hb2.mono HA1.out.size))
  have HW2 := Lib.hid (HW1.out.trans (HC2.out.mono HW1.out.size))
  have HR0_2 := Lib.hid (Ty.below_w HR0_1.out HC2.out)
  have C0_2 := Lib.hid ((Box.new w1 #[.int .i64 u0, .int .i64 v0, .slice A0 n0 c0] 25).below hb2 (by simp only [World.size_alloc]; omega))
  clear hb2
  obtain ⟨E0, m0, o0, hcs⟩ := tyCred_shM hm0
  simp only [List.cons.injEq, and_true] at hcs
  obtain ⟨rfl, rfl, rfl⟩ := hcs
  have HQ0_2 := Lib.hid (tyCred.mr hm0 fun b hb => (hf0 b hb).2)
  clear hm0 hf0 hsm0
  have HA2 := Lib.hid (show Below w2.heap.size w2 (w2.alloc (.cells #[.int .i64 (runD (u0, v0, l0) x).1, .int .i64 (runD (u0, v0, l0) x).2.1, .slice E0 m0 o0] 25)) from ((Below.refl _ _).alloc (Nat.le_refl _) _))
  have c0_c0 := C0_2.out.cell 0
  have c0_c1 := C0_2.out.cell 1
  have c0_c2 := C0_2.out.cell 2
  simp at c0_c0 c0_c1 c0_c2
  have c0_l := C0_2.out.lt
  go_wp2_with fail
  refine (credRun_any x (Ty.below_w HR0_2.out HA2.out) HS0.out).mono ?_
  rintro e w3 ⟨b0, b1, b2, rfl, hm1, hb3⟩
  clear c0_c0 c0_c1 c0_c2 c0_l
  have HC3 := Lib.hid (HA2.out.trans (hb3.mono HA2.out.size))
  have HW3 := Lib.hid (HW2.out.trans (HC3.out.mono HW2.out.size))
  have HR0_3 := Lib.hid (Ty.below_w HR0_2.out HC3.out)
  have HQ0_3 := Lib.hid (Ty.below_w HQ0_2.out HC3.out)
  have C0_3 := Lib.hid (C0_2.out.below HC3.out C0_2.out.lt)
  have X_3 := Lib.hid ((Box.new w2 #[.int .i64 (runD (u0, v0, l0) x).1, .int .i64 (runD (u0, v0, l0) x).2.1, .slice E0 m0 o0] 25).below hb3 (by simp only [World.size_alloc]; omega))
  clear hb3
  obtain ⟨E1, m1, o1, hcs⟩ := tyCred_sh hm1
  simp only [List.cons.injEq, and_true] at hcs
  obtain ⟨rfl, rfl, rfl⟩ := hcs
  have HQ1_3 := Lib.hid (hm1)
  clear hm1
  have HA3 := Lib.hid (show Below w3.heap.size w3 (w3.alloc (.cells #[.int .i64 (runD (u0, v0, l0) x).1, .int .i64 (runD (u0, v0, l0) x).2.1, .slice E1 m1 o1] 25)) from ((Below.refl _ _).alloc (Nat.le_refl _) _))
  have c0_c0 := C0_3.out.cell 0
  have c0_c1 := C0_3.out.cell 1
  have c0_c2 := C0_3.out.cell 2
  have x_c0 := X_3.out.cell 0
  have x_c1 := X_3.out.cell 1
  have x_c2 := X_3.out.cell 2
  simp at c0_c0 c0_c1 c0_c2 x_c0 x_c1 x_c2
  have c0_l := C0_3.out.lt
  have x_l := X_3.out.lt
  go_wp2_with fail
  refine (qdCred_t (Ty.below_w HQ0_3.out HA3.out) (Ty.below_w HQ1_3.out HA3.out)).mono ?_
  rintro e w4 ⟨rfl, hb4⟩
  clear c0_c0 c0_c1 c0_c2 x_c0 x_c1 x_c2 c0_l x_l
  have HC4 := Lib.hid (HA3.out.trans (hb4.mono HA3.out.size))
  have HW4 := Lib.hid (HW3.out.trans (HC4.out.mono HW3.out.size))
  have HR0_4 := Lib.hid (Ty.below_w HR0_3.out HC4.out)
  have HQ0_4 := Lib.hid (Ty.below_w HQ0_3.out HC4.out)
  have HQ1_4 := Lib.hid (Ty.below_w HQ1_3.out HC4.out)
  have C0_4 := Lib.hid (C0_3.out.below HC4.out C0_3.out.lt)
  have X_4 := Lib.hid (X_3.out.below HC4.out X_3.out.lt)
  have Y_4 := Lib.hid ((Box.new w3 #[.int .i64 (runD (u0, v0, l0) x).1, .int .i64 (runD (u0, v0, l0) x).2.1, .slice E1 m1 o1] 25).below hb4 (by simp only [World.size_alloc]; omega))
  clear hb4
  by_cases hB : runB (u0, v0, l0) x = true
  case neg =>
    have hB' : runB (u0, v0, l0) x = false := by simpa using hB
    rw [hB']
    have HA4 := Lib.hid (show Below w4.heap.size w4 w4 from (Below.refl _ _))
    have c0_c0 := C0_4.out.cell 0
    have c0_c1 := C0_4.out.cell 1
    have c0_c2 := C0_4.out.cell 2
    have x_c0 := X_4.out.cell 0
    have x_c1 := X_4.out.cell 1
    have x_c2 := X_4.out.cell 2
    have y_c0 := Y_4.out.cell 0
    have y_c1 := Y_4.out.cell 1
    have y_c2 := Y_4.out.cell 2
    simp at c0_c0 c0_c1 c0_c2 x_c0 x_c1 x_c2 y_c0 y_c1 y_c2
    have c0_l := C0_4.out.lt
    have x_l := X_4.out.lt
    have y_l := Y_4.out.lt
    go_wp2_with fail
    go_ret
    exact ⟨rfl, HW4.out⟩
  rw [hB]
  have HE := Lib.hid (run_yes hB)
  have HQ0_4 := Lib.hid (by have h := HQ0_4.out; rw [HE.out] at h; exact h)
  have X_4 := Lib.hid (by have h := X_4.out; rw [HE.out] at h; exact h)
  have HBB := Lib.hid (run_bec hB)
  have HSM := Lib.hid (show smallCred (x, v0, l0) from HS0.out)
  clear hB
  have HA4 := Lib.hid (show Below w4.heap.size w4 w4 from (Below.refl _ _))
  have c0_c0 := C0_4.out.cell 0
  have c0_c1 := C0_4.out.cell 1
  have c0_c2 := C0_4.out.cell 2
  have x_c0 := X_4.out.cell 0
  have x_c1 := X_4.out.cell 1
  have x_c2 := X_4.out.cell 2
  have y_c0 := Y_4.out.cell 0
  have y_c1 := Y_4.out.cell 1
  have y_c2 := Y_4.out.cell 2
  simp at c0_c0 c0_c1 c0_c2 x_c0 x_c1 x_c2 y_c0 y_c1 y_c2
  have c0_l := C0_4.out.lt
  have x_l := X_4.out.lt
  have y_l := Y_4.out.lt
  go_wp2_with fail
  refine (HB.out v0 (Ty.below_w HQ0_4.out HA4.out) HSM.out).mono ?_
  rintro e w5 ⟨d0, d1, d2, fp2, rfl, hm2, hf2, hsm2, hb5⟩
  clear c0_c0 c0_c1 c0_c2 x_c0 x_c1 x_c2 y_c0 y_c1 y_c2 c0_l x_l y_l
  have HC5 := Lib.hid (HA4.out.trans (hb5.mono HA4.out.size))
  have HW5 := Lib.hid (HW4.out.trans (HC5.out.mono HW4.out.size))
  have HR0_5 := Lib.hid (Ty.below_w HR0_4.out HC5.out)
  have HQ0_5 := Lib.hid (Ty.below_w HQ0_4.out HC5.out)
  have HQ1_5 := Lib.hid (Ty.below_w HQ1_4.out HC5.out)
  have C0_5 := Lib.hid (C0_4.out.below HC5.out C0_4.out.lt)
  have X_5 := Lib.hid (X_4.out.below HC5.out X_4.out.lt)
  have Y_5 := Lib.hid (Y_4.out.below HC5.out Y_4.out.lt)
  clear hb5
  rw [HBB.out]
  rw [bec_yes HBB.out] at hm2
  dsimp only at hm2
  rw [ite_self] at hm2
  obtain ⟨E2, m2, o2, hcs⟩ := tyCred_shM hm2
  simp only [List.cons.injEq, and_true] at hcs
  obtain ⟨rfl, rfl, rfl⟩ := hcs
  have HQ2_5 := Lib.hid (tyCred.mr hm2 fun b hb => (hf2 b hb).2)
  clear hm2 hf2 hsm2
  obtain ⟨_, _, _, hcs, hl0, hn0, hrow0⟩ := tyCred_R HR0_5.out
  simp only [List.cons.injEq, and_true, Value.slice.injEq] at hcs
  obtain ⟨_, _, rfl, rfl, rfl⟩ := hcs
  obtain ⟨_, _, _, hcs, hl1, hn1, hrow1⟩ := tyCred_R HQ0_5.out
  simp only [List.cons.injEq, and_true, Value.slice.injEq] at hcs
  obtain ⟨_, _, rfl, rfl, rfl⟩ := hcs
  dsimp only at hl0 hl1 hrow0 hrow1
  obtain rfl := hl0.symm.trans hl1
  have HW0r := Lib.hid hrow0
  have HW1r := Lib.hid hrow1
  have hnn := hn0
  unfold maxLen at hnn
  clear hrow0 hrow1 hl0 hl1 hn0 hn1
  have HA5 := Lib.hid (show Below w5.heap.size w5 (w5.alloc (.cells #[.int .i64 v0, .int .i64 v0, .slice E2 m2 o2] 25)) from ((Below.refl _ _).alloc (Nat.le_refl _) _))
  have c0_c0 := C0_5.out.cell 0
  have c0_c1 := C0_5.out.cell 1
  have c0_c2 := C0_5.out.cell 2
  have x_c0 := X_5.out.cell 0
  have x_c1 := X_5.out.cell 1
  have x_c2 := X_5.out.cell 2
  have y_c0 := Y_5.out.cell 0
  have y_c1 := Y_5.out.cell 1
  have y_c2 := Y_5.out.cell 2
  simp at c0_c0 c0_c1 c0_c2 x_c0 x_c1 x_c2 y_c0 y_c1 y_c2
  have c0_l := C0_5.out.lt
  have x_l := X_5.out.lt
  have y_l := Y_5.out.lt
  go_wp2_with fail
  refine (qdInt_S (HW1r.out.wb HA5.out) (HW0r.out.wb HA5.out) (by omega)).mono ?_
  rintro e w6 ⟨rfl, hb6⟩
  clear c0_c0 c0_c1 c0_c2 x_c0 x_c1 x_c2 y_c0 y_c1 y_c2 c0_l x_l y_l
  have HC6 := Lib.hid (HA5.out.trans (hb6.mono HA5.out.size))
  have HW6 := Lib.hid (HW5.out.trans (HC6.out.mono HW5.out.size))
  have HR0_6 := Lib.hid (Ty.below_w HR0_5.out HC6.out)
  have HQ0_6 := Lib.hid (Ty.below_w HQ0_5.out HC6.out)
  have HQ1_6 := Lib.hid (Ty.below_w HQ1_5.out HC6.out)
  have HQ2_6 := Lib.hid (Ty.below_w HQ2_5.out HC6.out)
  have C0_6 := Lib.hid (C0_5.out.below HC6.out C0_5.out.lt)
  have X_6 := Lib.hid (X_5.out.below HC6.out X_5.out.lt)
  have Y_6 := Lib.hid (Y_5.out.below HC6.out Y_5.out.lt)
  have Z_6 := Lib.hid ((Box.new w5 #[.int .i64 v0, .int .i64 v0, .slice E2 m2 o2] 25).below hb6 (by simp only [World.size_alloc]; omega))
  clear hb6
  have HA6 := Lib.hid (show Below w6.heap.size w6 w6 from (Below.refl _ _))
  have c0_c0 := C0_6.out.cell 0
  have c0_c1 := C0_6.out.cell 1
  have c0_c2 := C0_6.out.cell 2
  have x_c0 := X_6.out.cell 0
  have x_c1 := X_6.out.cell 1
  have x_c2 := X_6.out.cell 2
  have y_c0 := Y_6.out.cell 0
  have y_c1 := Y_6.out.cell 1
  have y_c2 := Y_6.out.cell 2
  have z_c0 := Z_6.out.cell 0
  have z_c1 := Z_6.out.cell 1
  have z_c2 := Z_6.out.cell 2
  simp at c0_c0 c0_c1 c0_c2 x_c0 x_c1 x_c2 y_c0 y_c1 y_c2 z_c0 z_c1 z_c2
  have c0_l := C0_6.out.lt
  have x_l := X_6.out.lt
  have y_l := Y_6.out.lt
  have z_l := Z_6.out.lt
  go_wp2_with fail
  go_ret
  exact ⟨rfl, HW6.out⟩
end
end Go.Proofs.Ytacndjbhlhbknaa
