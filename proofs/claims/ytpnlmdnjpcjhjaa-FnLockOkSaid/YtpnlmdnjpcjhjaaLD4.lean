/-
  The walk of FnLockOk on drawn arguments.
-/
import Derived.Test.YtpnlmdnjpcjhjaaLDraw3
import Derived.Test.YtpnlmdnjpcjhjaaTqLock
import Derived.Test.YtpnlmdnjpcjhjaaLS6
namespace Go.Proofs.Ytpnlmdnjpcjhjaa
open Go.RowKit

section
variable {A : Option Addr} {n c : Nat} {w : World}
set_option maxHeartbeats 4000000 in
set_option maxRecDepth 100000 in
theorem dLockOk_walk (hOk : KOk 23) (hRun : KRun 28) (hc : Code w A n) (hcap : n ≤ c) (hcap2 : c ≤ maxLen) : Calls Try.prog 4 #[.slice A n c] w fun e w' => e = .returned (.bool true) ∧ Below w.heap.size w w' := by
  have hn := hc.1
  unfold maxLen at hn
  by_cases hbig : (1048576 : Int) < n
  · go_enter Try.func4, Try.ntmps4
    go_wp2_with fail
    go_ret
    exact ⟨rfl, Below.refl _ _⟩
  have HCODE := Lib.hid hc
  clear hc
  have HOK := Lib.hid hOk
  clear hOk
  have HRUN := Lib.hid hRun
  clear hRun
  have HW0 := Lib.hid (Below.refl w.heap.size w)
  go_enter Try.func4, Try.ntmps4
  have HA0 := Lib.hid (show Below w.heap.size w w from (Below.refl _ _))
  go_wp2_with fail
  refine (dDrawLockOk_any HCODE.out hcap hcap2).mono ?_
  rintro e w1 ⟨g0, d0, Al, dl, D0, fp0, rfl, hm0, hf0, hs0, hb1⟩
  have HC1 := Lib.hid (HA0.out.trans (hb1.mono HA0.out.size))
  have HW1 := Lib.hid (HW0.out.trans (HC1.out.mono HW0.out.size))
  clear hb1
  have HR0_1 := Lib.hid (tyLock.mr hm0 fun b hb => (hf0 b hb).2)
  have HS0 := Lib.hid (show smallLock D0 from ⟨by omega, by omega⟩)
  have HZ0 := Lib.hid hs0
  clear hm0 hf0 hs0
  obtain ⟨n0, hn0⟩ : ∃ n0, D0.2.1.length = n0 := ⟨_, rfl⟩
  obtain ⟨nl, hnl⟩ : ∃ nl, D0.2.2.length = nl := ⟨_, rfl⟩
  obtain ⟨W0, hW0⟩ : ∃ W0, D0.1 = W0 := ⟨_, rfl⟩
  have HN0 := Lib.hid hn0
  have HN2 := Lib.hid hnl
  have HV0 := Lib.hid hW0
  rw [hn0, hnl, hW0] at HR0_1 ⊢
  rw [hn0, hnl] at HZ0
  clear hn0 hnl hW0
  obtain ⟨r, hr⟩ : ∃ r, lkB D0 = r := ⟨_, rfl⟩
  have HRR := Lib.hid hr
  clear hr
  have HA1 := Lib.hid (show Below w1.heap.size w1 (w1.alloc (.cells #[.int .i64 W0, .slice (some ⟨g0, 0, none⟩) n0 d0, .slice Al nl dl] 28)) from ((Below.refl _ _).alloc (Nat.le_refl _) _))
  go_wp2_with fail
  refine (HOK.out (Ty.below_w HR0_1.out HA1.out)).mono ?_
  rintro e w2 ⟨rfl, hb2⟩
  have HC2 := Lib.hid (HA1.out.trans (hb2.mono HA1.out.size))
  have HW2 := Lib.hid (HW1.out.trans (HC2.out.mono HW1.out.size))
  have HR0_2 := Lib.hid (Ty.below_w HR0_1.out HC2.out)
  have C0_2 := Lib.hid ((Box.new w1 #[.int .i64 W0, .slice (some ⟨g0, 0, none⟩) n0 d0, .slice Al nl dl] 28).below hb2 (by simp only [World.size_alloc]; omega))
  clear hb2
  rw [HRR.out]
  have HA2 := Lib.hid (show Below w2.heap.size w2 w2 from (Below.refl _ _))
  have c0_c0 := C0_2.out.cell 0
  have c0_c1 := C0_2.out.cell 1
  have c0_c2 := C0_2.out.cell 2
  simp at c0_c0 c0_c1 c0_c2
  have c0_l := C0_2.out.lt
  go_wp2_with fail
  refine (lockOk_any (Ty.below_w HR0_2.out HA2.out)).mono ?_
  rintro e w3 ⟨rfl, hb3⟩
  clear c0_c0 c0_c1 c0_c2 c0_l
  have HC3 := Lib.hid (HA2.out.trans (hb3.mono HA2.out.size))
  have HW3 := Lib.hid (HW2.out.trans (HC3.out.mono HW2.out.size))
  have HR0_3 := Lib.hid (Ty.below_w HR0_2.out HC3.out)
  have C0_3 := Lib.hid (C0_2.out.below HC3.out C0_2.out.lt)
  clear hb3
  rw [HRR.out]
  obtain ⟨D1, hD1⟩ : ∃ X : Lk, runL D0 [] = X := ⟨_, rfl⟩
  obtain ⟨v1, hv1⟩ : ∃ X : Int, runN D0 [] = X := ⟨_, rfl⟩
  have HD1 := Lib.hid hD1
  have HV1 := Lib.hid hv1
  clear hD1 hv1
  have HA3 := Lib.hid (show Below w3.heap.size w3 (w3.alloc (.cells #[] 3)) from ((Below.refl _ _).alloc (Nat.le_refl _) _))
  have c0_c0 := C0_3.out.cell 0
  have c0_c1 := C0_3.out.cell 1
  have c0_c2 := C0_3.out.cell 2
  simp at c0_c0 c0_c1 c0_c2
  have c0_l := C0_3.out.lt
  go_wp2_with fail
  refine (HRUN.out (A := some ⟨w3.heap.size, 0, none⟩) (m := 0) (c := 0) (L := []) (hi2 := 0) (Ty.below_w HR0_3.out HA3.out) HS0.out (fun h => absurd h (Nat.lt_irrefl 0)) rfl (by omega)).mono ?_
  rintro e w4 ⟨y10, y11, y12, fq1, rfl, hm1, hf1, hs1, hb4⟩
  clear c0_c0 c0_c1 c0_c2 c0_l
  have HC4 := Lib.hid (HA3.out.trans (hb4.mono HA3.out.size))
  have HW4 := Lib.hid (HW3.out.trans (HC4.out.mono HW3.out.size))
  have HR0_4 := Lib.hid (Ty.below_w HR0_3.out HC4.out)
  have C0_4 := Lib.hid (C0_3.out.below HC4.out C0_3.out.lt)
  clear hb4
  rw [HD1.out] at hm1 hs1
  rw [HV1.out]
  obtain ⟨E1, m1, o1, F1, q1, r1, hcs⟩ := tyLock_shM hm1
  simp only [List.cons.injEq, and_true] at hcs
  obtain ⟨rfl, rfl, rfl⟩ := hcs
  have HQ1_4 := Lib.hid (tyLock.mr hm1 fun b hb => (hf1 b hb).2)
  have HS1 := Lib.hid hs1
  clear hm1 hf1 hs1
  cases r
  case false =>
    obtain rfl : v1 = -1 := by rw [← HV1.out]; unfold runN; rw [HRR.out]; rfl
    have HA4 := Lib.hid (show Below w4.heap.size w4 (w4.alloc (.cells #[.int .i64 (D1).1, .slice E1 m1 o1, .slice F1 q1 r1] 28)) from ((Below.refl _ _).alloc (Nat.le_refl _) _))
    have c0_c0 := C0_4.out.cell 0
    have c0_c1 := C0_4.out.cell 1
    have c0_c2 := C0_4.out.cell 2
    simp at c0_c0 c0_c1 c0_c2
    have c0_l := C0_4.out.lt
    go_wp2_with fail
    go_ret
    exact ⟨rfl, HW4.out.trans (HA4.out.mono HW4.out.size)⟩
  obtain rfl : v1 = 0 := by rw [← HV1.out]; unfold runN; rw [HRR.out]; rfl
  obtain rfl : D1 = D0 := by rw [← HD1.out]; unfold runL; rw [HRR.out]; rfl
  have HA4 := Lib.hid (show Below w4.heap.size w4 (w4.alloc (.cells #[.int .i64 (D1).1, .slice E1 m1 o1, .slice F1 q1 r1] 28)) from ((Below.refl _ _).alloc (Nat.le_refl _) _))
  have c0_c0 := C0_4.out.cell 0
  have c0_c1 := C0_4.out.cell 1
  have c0_c2 := C0_4.out.cell 2
  simp at c0_c0 c0_c1 c0_c2
  have c0_l := C0_4.out.lt
  go_wp2_with fail
  refine (qdLock_t (Ty.below_w HQ1_4.out HA4.out) (Ty.below_w HR0_4.out HA4.out)).mono ?_
  rintro e w5 ⟨rfl, hb5⟩
  clear c0_c0 c0_c1 c0_c2 c0_l
  have HC5 := Lib.hid (HA4.out.trans (hb5.mono HA4.out.size))
  have HW5 := Lib.hid (HW4.out.trans (HC5.out.mono HW4.out.size))
  have HR0_5 := Lib.hid (Ty.below_w HR0_4.out HC5.out)
  have HQ1_5 := Lib.hid (Ty.below_w HQ1_4.out HC5.out)
  have C0_5 := Lib.hid (C0_4.out.below HC5.out C0_4.out.lt)
  have Y_5 := Lib.hid ((Box.new w4 #[.int .i64 (D1).1, .slice E1 m1 o1, .slice F1 q1 r1] 28).below hb5 (by simp only [World.size_alloc]; omega))
  clear hb5
  have HA5 := Lib.hid (show Below w5.heap.size w5 w5 from (Below.refl _ _))
  have c0_c0 := C0_5.out.cell 0
  have c0_c1 := C0_5.out.cell 1
  have c0_c2 := C0_5.out.cell 2
  have y_c0 := Y_5.out.cell 0
  have y_c1 := Y_5.out.cell 1
  have y_c2 := Y_5.out.cell 2
  simp at c0_c0 c0_c1 c0_c2 y_c0 y_c1 y_c2
  have c0_l := C0_5.out.lt
  have y_l := Y_5.out.lt
  go_wp2_with fail
  go_ret
  exact ⟨rfl, HW5.out⟩
end
end Go.Proofs.Ytpnlmdnjpcjhjaa
