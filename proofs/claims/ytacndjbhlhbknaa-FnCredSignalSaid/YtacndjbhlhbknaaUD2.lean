/-
  The walk of FnCredSignal on drawn arguments.
-/
import Derived.Test.YtacndjbhlhbknaaUD1
namespace Go.Proofs.Ytacndjbhlhbknaa
open Go.RowKit

section
variable {A : Option Addr} {n c : Nat} {w : World}
set_option maxHeartbeats 4000000 in
set_option maxRecDepth 100000 in
theorem dCredSignal_walk (hm : COk 20) (hb : CSgn 40) (hc : Code w A n) (hcap : n ≤ c) (hcap2 : c ≤ maxLen) : Calls Try.prog 9 #[.slice A n c] w fun e w' => e = .returned (.bool true) ∧ Below w.heap.size w w' := by
  have hn := hc.1
  unfold maxLen at hn
  by_cases hbig : (1048576 : Int) < n
  · go_enter Try.func9, Try.ntmps9
    go_wp2_with fail
    go_ret
    exact ⟨rfl, Below.refl _ _⟩
  have HCODE := Lib.hid hc
  clear hc
  have HM := Lib.hid hm
  clear hm
  have HB := Lib.hid hb
  clear hb
  have HW0 := Lib.hid (Below.refl w.heap.size w)
  go_enter Try.func9, Try.ntmps9
  have HA0 := Lib.hid (show Below w.heap.size w w from (Below.refl _ _))
  go_wp2_with fail
  refine (dDrawCredSignal_any HCODE.out hcap hcap2).mono ?_
  rintro e w1 ⟨y00, y01, y02, D0, y10, y11, y12, D1, rfl, hr0, hr1, hs0, hs1, hb1⟩
  have HC1 := Lib.hid (HA0.out.trans (hb1.mono HA0.out.size))
  have HW1 := Lib.hid (HW0.out.trans (HC1.out.mono HW0.out.size))
  clear hb1
  obtain ⟨A0, n0, c0, hcs⟩ := tyCred_sh hr0
  simp only [List.cons.injEq, and_true] at hcs
  obtain ⟨rfl, rfl, rfl⟩ := hcs
  obtain ⟨u0, v0, l0⟩ := D0
  dsimp only at hr0 ⊢
  have HS0 := Lib.hid hs0
  have HR0_1 := Lib.hid (hr0)
  obtain ⟨A1, n1, c1, hcs⟩ := tyCred_sh hr1
  simp only [List.cons.injEq, and_true] at hcs
  obtain ⟨rfl, rfl, rfl⟩ := hcs
  obtain ⟨u1, v1, l1⟩ := D1
  dsimp only at hr1 ⊢
  have HS1 := Lib.hid hs1
  have HR1_1 := Lib.hid (hr1)
  clear hr0 hs0 hr1 hs1
  have HA1 := Lib.hid (show Below w1.heap.size w1 ((w1.alloc (.cells #[.int .i64 u0, .int .i64 v0, .slice A0 n0 c0] 25)).alloc (.cells #[.int .i64 u1, .int .i64 v1, .slice A1 n1 c1] 25)) from (((Below.refl _ _).alloc (Nat.le_refl _) _).alloc (by simp only [World.size_alloc]; omega) _))
  go_wp2_with fail
  refine (HB.out (Ty.below_w HR0_1.out HA1.out) (Ty.below_w HR1_1.out HA1.out)).mono ?_
  rintro e w2 ⟨rfl, hb2⟩
  have HC2 := Lib.hid (HA1.out.trans (hb2.mono HA1.out.size))
  have HW2 := Lib.hid (HW1.out.trans (HC2.out.mono HW1.out.size))
  have HR0_2 := Lib.hid (Ty.below_w HR0_1.out HC2.out)
  have HR1_2 := Lib.hid (Ty.below_w HR1_1.out HC2.out)
  have C0_2 := Lib.hid (((Box.new w1 #[.int .i64 u0, .int .i64 v0, .slice A0 n0 c0] 25).alloc (.cells #[.int .i64 u1, .int .i64 v1, .slice A1 n1 c1] 25)).below hb2 (by simp only [World.size_alloc]; omega))
  have C1_2 := Lib.hid ((Box.new (w1.alloc (.cells #[.int .i64 u0, .int .i64 v0, .slice A0 n0 c0] 25)) #[.int .i64 u1, .int .i64 v1, .slice A1 n1 c1] 25).below hb2 (by simp only [World.size_alloc]; omega))
  clear hb2
  have HA2 := Lib.hid (show Below w2.heap.size w2 w2 from (Below.refl _ _))
  have c0_c0 := C0_2.out.cell 0
  have c0_c1 := C0_2.out.cell 1
  have c0_c2 := C0_2.out.cell 2
  have c1_c0 := C1_2.out.cell 0
  have c1_c1 := C1_2.out.cell 1
  have c1_c2 := C1_2.out.cell 2
  simp at c0_c0 c0_c1 c0_c2 c1_c0 c1_c1 c1_c2
  have c0_l := C0_2.out.lt
  have c1_l := C1_2.out.lt
  go_wp2_with fail
  refine (credSgn_any (Ty.below_w HR0_2.out HA2.out) (Ty.below_w HR1_2.out HA2.out)).mono ?_
  rintro e w3 ⟨rfl, hb3⟩
  clear c0_c0 c0_c1 c0_c2 c1_c0 c1_c1 c1_c2 c0_l c1_l
  have HC3 := Lib.hid (HA2.out.trans (hb3.mono HA2.out.size))
  have HW3 := Lib.hid (HW2.out.trans (HC3.out.mono HW2.out.size))
  have HR0_3 := Lib.hid (Ty.below_w HR0_2.out HC3.out)
  have HR1_3 := Lib.hid (Ty.below_w HR1_2.out HC3.out)
  have C0_3 := Lib.hid (C0_2.out.below HC3.out C0_2.out.lt)
  have C1_3 := Lib.hid (C1_2.out.below HC3.out C1_2.out.lt)
  clear hb3
  have HA3 := Lib.hid (show Below w3.heap.size w3 w3 from (Below.refl _ _))
  have c0_c0 := C0_3.out.cell 0
  have c0_c1 := C0_3.out.cell 1
  have c0_c2 := C0_3.out.cell 2
  have c1_c0 := C1_3.out.cell 0
  have c1_c1 := C1_3.out.cell 1
  have c1_c2 := C1_3.out.cell 2
  simp at c0_c0 c0_c1 c0_c2 c1_c0 c1_c1 c1_c2
  have c0_l := C0_3.out.lt
  have c1_l := C1_3.out.lt
  go_wp2_with fail
  refine (HM.out (Ty.below_w HR0_3.out HA3.out)).mono ?_
  rintro e w4 ⟨rfl, hb4⟩
  clear c0_c0 c0_c1 c0_c2 c1_c0 c1_c1 c1_c2 c0_l c1_l
  have HC4 := Lib.hid (HA3.out.trans (hb4.mono HA3.out.size))
  have HW4 := Lib.hid (HW3.out.trans (HC4.out.mono HW3.out.size))
  have HR0_4 := Lib.hid (Ty.below_w HR0_3.out HC4.out)
  have HR1_4 := Lib.hid (Ty.below_w HR1_3.out HC4.out)
  have C0_4 := Lib.hid (C0_3.out.below HC4.out C0_3.out.lt)
  have C1_4 := Lib.hid (C1_3.out.below HC4.out C1_3.out.lt)
  clear hb4
  by_cases h0 : credB (u0, v0, l0) = true
  case neg =>
    have h0' : credB (u0, v0, l0) = false := by simpa using h0
    rw [h0']
    clear h0
    have HA4 := Lib.hid (show Below w4.heap.size w4 w4 from (Below.refl _ _))
    have c0_c0 := C0_4.out.cell 0
    have c0_c1 := C0_4.out.cell 1
    have c0_c2 := C0_4.out.cell 2
    have c1_c0 := C1_4.out.cell 0
    have c1_c1 := C1_4.out.cell 1
    have c1_c2 := C1_4.out.cell 2
    simp at c0_c0 c0_c1 c0_c2 c1_c0 c1_c1 c1_c2
    have c0_l := C0_4.out.lt
    have c1_l := C1_4.out.lt
    go_wp2_with fail
    go_ret
    exact ⟨rfl, HW4.out⟩
  rw [h0]
  have HA4 := Lib.hid (show Below w4.heap.size w4 w4 from (Below.refl _ _))
  have c0_c0 := C0_4.out.cell 0
  have c0_c1 := C0_4.out.cell 1
  have c0_c2 := C0_4.out.cell 2
  have c1_c0 := C1_4.out.cell 0
  have c1_c1 := C1_4.out.cell 1
  have c1_c2 := C1_4.out.cell 2
  simp at c0_c0 c0_c1 c0_c2 c1_c0 c1_c1 c1_c2
  have c0_l := C0_4.out.lt
  have c1_l := C1_4.out.lt
  go_wp2_with fail
  refine (HM.out (Ty.below_w HR1_4.out HA4.out)).mono ?_
  rintro e w5 ⟨rfl, hb5⟩
  clear c0_c0 c0_c1 c0_c2 c1_c0 c1_c1 c1_c2 c0_l c1_l
  have HC5 := Lib.hid (HA4.out.trans (hb5.mono HA4.out.size))
  have HW5 := Lib.hid (HW4.out.trans (HC5.out.mono HW4.out.size))
  have HR0_5 := Lib.hid (Ty.below_w HR0_4.out HC5.out)
  have HR1_5 := Lib.hid (Ty.below_w HR1_4.out HC5.out)
  have C0_5 := Lib.hid (C0_4.out.below HC5.out C0_4.out.lt)
  have C1_5 := Lib.hid (C1_4.out.below HC5.out C1_4.out.lt)
  clear hb5
  by_cases h1 : credB (u1, v1, l1) = true
  case neg =>
    have h1' : credB (u1, v1, l1) = false := by simpa using h1
    rw [h1']
    clear h1
    have HA5 := Lib.hid (show Below w5.heap.size w5 w5 from (Below.refl _ _))
    have c0_c0 := C0_5.out.cell 0
    have c0_c1 := C0_5.out.cell 1
    have c0_c2 := C0_5.out.cell 2
    have c1_c0 := C1_5.out.cell 0
    have c1_c1 := C1_5.out.cell 1
    have c1_c2 := C1_5.out.cell 2
    simp at c0_c0 c0_c1 c0_c2 c1_c0 c1_c1 c1_c2
    have c0_l := C0_5.out.lt
    have c1_l := C1_5.out.lt
    go_wp2_with fail
    go_ret
    exact ⟨rfl, HW5.out⟩
  rw [h1]
  have HS0' := Lib.hid (sgn_self (u := u0) (v := v0) (l := l0) h0)
  have HSZ := Lib.hid (fun h => sgn_zero (u := u0) (v := v0) (l := l0) (x := u1) (y := v1) (k := l1) h0 h1 h)
  have HSY := Lib.hid (sgn_sym (u := u0) (v := v0) (l := l0) (x := u1) (y := v1) (k := l1) h0 h1)
  clear h0 h1
  have HA5 := Lib.hid (show Below w5.heap.size w5 w5 from (Below.refl _ _))
  have c0_c0 := C0_5.out.cell 0
  have c0_c1 := C0_5.out.cell 1
  have c0_c2 := C0_5.out.cell 2
  have c1_c0 := C1_5.out.cell 0
  have c1_c1 := C1_5.out.cell 1
  have c1_c2 := C1_5.out.cell 2
  simp at c0_c0 c0_c1 c0_c2 c1_c0 c1_c1 c1_c2
  have c0_l := C0_5.out.lt
  have c1_l := C1_5.out.lt
  go_wp2_with fail
  refine (HB.out (Ty.below_w HR0_5.out HA5.out) (Ty.below_w HR0_5.out HA5.out)).mono ?_
  rintro e w6 ⟨rfl, hb6⟩
  clear c0_c0 c0_c1 c0_c2 c1_c0 c1_c1 c1_c2 c0_l c1_l
  have HC6 := Lib.hid (HA5.out.trans (hb6.mono HA5.out.size))
  have HW6 := Lib.hid (HW5.out.trans (HC6.out.mono HW5.out.size))
  have HR0_6 := Lib.hid (Ty.below_w HR0_5.out HC6.out)
  have HR1_6 := Lib.hid (Ty.below_w HR1_5.out HC6.out)
  have C0_6 := Lib.hid (C0_5.out.below HC6.out C0_5.out.lt)
  have C1_6 := Lib.hid (C1_5.out.below HC6.out C1_5.out.lt)
  clear hb6
  rw [HS0'.out]
  by_cases hz : u0 = 0
  case pos =>
    subst hz
    have h9 := HSZ.out rfl
    rw [h9]
    have HA6 := Lib.hid (show Below w6.heap.size w6 w6 from (Below.refl _ _))
    have c0_c0 := C0_6.out.cell 0
    have c0_c1 := C0_6.out.cell 1
    have c0_c2 := C0_6.out.cell 2
    have c1_c0 := C1_6.out.cell 0
    have c1_c1 := C1_6.out.cell 1
    have c1_c2 := C1_6.out.cell 2
    simp at c0_c0 c0_c1 c0_c2 c1_c0 c1_c1 c1_c2
    have c0_l := C0_6.out.lt
    have c1_l := C1_6.out.lt
    go_wp2_with fail
    go_ret
    exact ⟨rfl, HW6.out⟩
  have e0 : (u0 == 0) = false := by simpa using hz
  have e1 : (u0 != 0) = true := by simpa using hz
  by_cases hy : u1 = 0
  case pos =>
    subst hy
    have c0_c0 := C0_6.out.cell 0
    have c0_c1 := C0_6.out.cell 1
    have c0_c2 := C0_6.out.cell 2
    have c1_c0 := C1_6.out.cell 0
    have c1_c1 := C1_6.out.cell 1
    have c1_c2 := C1_6.out.cell 2
    simp at c0_c0 c0_c1 c0_c2 c1_c0 c1_c1 c1_c2
    have c0_l := C0_6.out.lt
    have c1_l := C1_6.out.lt
    go_wp2_with fail
    go_ret
    exact ⟨rfl, HW6.out⟩
  have e2 : (u1 == 0) = false := by simpa using hy
  have HA6 := Lib.hid (show Below w6.heap.size w6 w6 from (Below.refl _ _))
  have c0_c0 := C0_6.out.cell 0
  have c0_c1 := C0_6.out.cell 1
  have c0_c2 := C0_6.out.cell 2
  have c1_c0 := C1_6.out.cell 0
  have c1_c1 := C1_6.out.cell 1
  have c1_c2 := C1_6.out.cell 2
  simp at c0_c0 c0_c1 c0_c2 c1_c0 c1_c1 c1_c2
  have c0_l := C0_6.out.lt
  have c1_l := C1_6.out.lt
  go_wp2_with fail
  refine (HB.out (Ty.below_w HR1_6.out HA6.out) (Ty.below_w HR0_6.out HA6.out)).mono ?_
  rintro e w7 ⟨rfl, hb7⟩
  clear c0_c0 c0_c1 c0_c2 c1_c0 c1_c1 c1_c2 c0_l c1_l
  have HC7 := Lib.hid (HA6.out.trans (hb7.mono HA6.out.size))
  have HW7 := Lib.hid (HW6.out.trans (HC7.out.mono HW6.out.size))
  have HR0_7 := Lib.hid (Ty.below_w HR0_6.out HC7.out)
  have HR1_7 := Lib.hid (Ty.below_w HR1_6.out HC7.out)
  have C0_7 := Lib.hid (C0_6.out.below HC7.out C0_6.out.lt)
  have C1_7 := Lib.hid (C1_6.out.below HC7.out C1_6.out.lt)
  clear hb7
  rw [HSY.out hz hy]
  have HA7 := Lib.hid (show Below w7.heap.size w7 w7 from (Below.refl _ _))
  have c0_c0 := C0_7.out.cell 0
  have c0_c1 := C0_7.out.cell 1
  have c0_c2 := C0_7.out.cell 2
  have c1_c0 := C1_7.out.cell 0
  have c1_c1 := C1_7.out.cell 1
  have c1_c2 := C1_7.out.cell 2
  simp at c0_c0 c0_c1 c0_c2 c1_c0 c1_c1 c1_c2
  have c0_l := C0_7.out.lt
  have c1_l := C1_7.out.lt
  go_wp2_with fail
  go_ret
  exact ⟨ret_bool (by simp), HW7.out⟩
end
end Go.Proofs.Ytacndjbhlhbknaa
