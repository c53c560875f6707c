/-
  The walk of FnQueueOk on drawn arguments.
-/
import Derived.Test.YtagggajlpmdpdaaQLaw
namespace Go.Proofs.Ytagggajlpmdpdaa
open Go.RowKit

section
variable {A : Option Addr} {n c : Nat} {w : World}
set_option maxHeartbeats 4000000 in
set_option maxRecDepth 100000 in
theorem dQueueOk_walk (hOk : QOk 24) (hRun : QRunM 26) (hc : Code w A n) (hcap : n ≤ c) (hcap2 : c ≤ maxLen) : Calls Try.prog 3 #[.slice A n c] w fun e w' => e = .returned (.bool true) ∧ Below w.heap.size w w' := by
  have hn := hc.1
  unfold maxLen at hn
  by_cases hbig : (1048576 : Int) < n
  · go_enter Try.func3, Try.ntmps3
    go_wp2_with fail
    go_ret
    exact ⟨rfl, Below.refl _ _⟩
  have HCODE := Lib.hid hc
  clear hc
  have HOK := Lib.hid hOk
  clear hOk
  have HRUN := Lib.hid hRun
  clear hRun
  have HW0 := Lib.hid (Below.refl w.heap.size w)
  go_enter Try.func3, Try.ntmps3
  have HA0 := Lib.hid (show Below w.heap.size w w from (Below.refl _ _))
  go_wp2_with fail
  refine (dDrawQueueOk_any HCODE.out hcap hcap2).mono ?_
  rintro e w1 ⟨A0, n0, c0, D0, fp0, rfl, hm0, hf0, hl0, hcq0, hb1⟩
  have HC1 := Lib.hid (HA0.out.trans (hb1.mono HA0.out.size))
  have HW1 := Lib.hid (HW0.out.trans (HC1.out.mono HW0.out.size))
  clear hb1
  have HR0_1 := Lib.hid (tyQueue.mr hm0 fun b hb => (hf0 b hb).2)
  have HL0 := Lib.hid hl0
  have HS0 := Lib.hid (show smallQueue D0 from by unfold smallQueue; omega)
  have HK0 := Lib.hid (capQ (A := A0) hcq0)
  clear hm0 hf0 hl0 hcq0
  have HA1 := Lib.hid (show Below w1.heap.size w1 (w1.alloc (.cells #[.slice A0 n0 c0, .int .i64 D0.2] 25)) from ((Below.refl _ _).alloc (Nat.le_refl _) _))
  go_wp2_with fail
  refine (HOK.out (Ty.below_w HR0_1.out HA1.out)).mono ?_
  rintro e w2 ⟨rfl, hb2⟩
  have HC2 := Lib.hid (HA1.out.trans (hb2.mono HA1.out.size))
  have HW2 := Lib.hid (HW1.out.trans (HC2.out.mono HW1.out.size))
  have HR0_2 := Lib.hid (Ty.below_w HR0_1.out HC2.out)
  have C0_2 := Lib.hid ((Box.new w1 #[.slice A0 n0 c0, .int .i64 D0.2] 25).below hb2 (by simp only [World.size_alloc]; omega))
  clear hb2
  have HA2 := Lib.hid (show Below w2.heap.size w2 w2 from (Below.refl _ _))
  have c0_c0 := C0_2.out.cell 0
  have c0_c1 := C0_2.out.cell 1
  simp at c0_c0 c0_c1
  have c0_l := C0_2.out.lt
  go_wp2_with fail
  refine (queueOk_any (Ty.below_w HR0_2.out HA2.out)).mono ?_
  rintro e w3 ⟨rfl, hb3⟩
  clear c0_c0 c0_c1 c0_l
  have HC3 := Lib.hid (HA2.out.trans (hb3.mono HA2.out.size))
  have HW3 := Lib.hid (HW2.out.trans (HC3.out.mono HW2.out.size))
  have HR0_3 := Lib.hid (Ty.below_w HR0_2.out HC3.out)
  have C0_3 := Lib.hid (C0_2.out.below HC3.out C0_2.out.lt)
  clear hb3
  have HA3 := Lib.hid (show Below w3.heap.size w3 w3 from (Below.refl _ _))
  have c0_c0 := C0_3.out.cell 0
  have c0_c1 := C0_3.out.cell 1
  simp at c0_c0 c0_c1
  have c0_l := C0_3.out.lt
  go_wp2_with fail
  refine (HRUN.out 0 (Ty.below_w HR0_3.out HA3.out) HS0.out HK0.out).mono ?_
  rintro e w4 ⟨p10, p11, fp1, I1, i1, j1, fi1, rfl, hm1, hf1, hs1, hk1, hi1, hfi1, hl1, hn1, hb4⟩
  clear c0_c0 c0_c1 c0_l
  have HC4 := Lib.hid (HA3.out.trans (hb4.mono HA3.out.size))
  have HW4 := Lib.hid (HW3.out.trans (HC4.out.mono HW3.out.size))
  have HR0_4 := Lib.hid (Ty.below_w HR0_3.out HC4.out)
  have C0_4 := Lib.hid (C0_3.out.below HC4.out C0_3.out.lt)
  clear hb4
  obtain ⟨E1, m1, o1, hcs⟩ := tyQueue_shM hm1
  simp only [List.cons.injEq, and_true] at hcs
  obtain ⟨rfl, rfl⟩ := hcs
  have HQ1_4 := Lib.hid (tyQueue.mr hm1 fun b hb => (hf1 b hb).2)
  have HS1 := Lib.hid hs1
  have HK1 := Lib.hid hk1
  clear hm1 hf1 hs1 hk1
  have HI1 := Lib.hid hl1
  clear hi1 hfi1 hl1 hn1
  rw [run0]
  by_cases h0 : qB D0 = true
  case neg =>
    have h0' : qB D0 = false := by simpa using h0
    have hi : i1 = 0 := by have h := HI1.out; rw [run0i, List.length_nil] at h; exact h.symm
    subst hi
    rw [h0']
    clear h0
    have HA4 := Lib.hid (show Below w4.heap.size w4 (w4.alloc (.cells #[.slice E1 m1 o1, .int .i64 (runD D0 0).2] 25)) from ((Below.refl _ _).alloc (Nat.le_refl _) _))
    have c0_c0 := C0_4.out.cell 0
    have c0_c1 := C0_4.out.cell 1
    simp at c0_c0 c0_c1
    have c0_l := C0_4.out.lt
    go_wp2_with fail
    go_ret
    exact ⟨rfl, HW4.out.trans (HA4.out.mono HW4.out.size)⟩
  have hi : i1 = 0 := by have h := HI1.out; rw [run0i, List.length_nil] at h; exact h.symm
  subst hi
  have HQ1_4 := Lib.hid (show tyQueue.R w4 w4.heap.size [.slice E1 m1 o1, .int .i64 D0.2] D0 from by have h := HQ1_4.out; rw [run0d h0] at h; exact h)
  rw [h0, run0d h0]
  clear h0
  have HA4 := Lib.hid (show Below w4.heap.size w4 (w4.alloc (.cells #[.slice E1 m1 o1, .int .i64 D0.2] 25)) from ((Below.refl _ _).alloc (Nat.le_refl _) _))
  have c0_c0 := C0_4.out.cell 0
  have c0_c1 := C0_4.out.cell 1
  simp at c0_c0 c0_c1
  have c0_l := C0_4.out.lt
  go_wp2_with fail
  refine (qdQueue_t (Ty.below_w HQ1_4.out HA4.out) (Ty.below_w HR0_4.out HA4.out)).mono ?_
  rintro e w5 ⟨rfl, hb5⟩
  clear c0_c0 c0_c1 c0_l
  have HC5 := Lib.hid (HA4.out.trans (hb5.mono HA4.out.size))
  have HW5 := Lib.hid (HW4.out.trans (HC5.out.mono HW4.out.size))
  have HR0_5 := Lib.hid (Ty.below_w HR0_4.out HC5.out)
  have HQ1_5 := Lib.hid (Ty.below_w HQ1_4.out HC5.out)
  have C0_5 := Lib.hid (C0_4.out.below HC5.out C0_4.out.lt)
  have X_5 := Lib.hid ((Box.new w4 #[.slice E1 m1 o1, .int .i64 D0.2] 25).below hb5 (by simp only [World.size_alloc]; omega))
  clear hb5
  have HA5 := Lib.hid (show Below w5.heap.size w5 w5 from (Below.refl _ _))
  have c0_c0 := C0_5.out.cell 0
  have c0_c1 := C0_5.out.cell 1
  have x_c0 := X_5.out.cell 0
  have x_c1 := X_5.out.cell 1
  simp at c0_c0 c0_c1 x_c0 x_c1
  have c0_l := C0_5.out.lt
  have x_l := X_5.out.lt
  go_wp2_with fail
  go_ret
  exact ⟨rfl, HW5.out⟩
end
end Go.Proofs.Ytagggajlpmdpdaa
