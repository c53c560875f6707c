/-
  The walk of FnLockNew on drawn arguments.
-/
import Derived.Test.YtpnlmdnjpcjhjaaLDraw1
import Derived.Test.YtpnlmdnjpcjhjaaTqLock
import Derived.Test.YtpnlmdnjpcjhjaaLS2
namespace Go.Proofs.Ytpnlmdnjpcjhjaa
open Go.RowKit

section
variable {A : Option Addr} {n c : Nat} {w : World}
set_option maxHeartbeats 4000000 in
set_option maxRecDepth 100000 in
theorem dLockNew_walk (hNew : KNew 20) (hOk : KOk 23) (hIn : KIn 24) (hStk : KStk 25) (hc : Code w A n) (hcap : n ≤ c) (hcap2 : c ≤ maxLen) : Calls Try.prog 3 #[.slice A n c] w fun e w' => e = .returned (.bool true) ∧ Below w.heap.size w w' := by
  have hn := hc.1
  unfold maxLen at hn
  by_cases hbig : (1048576 : Int) < n
  · go_enter Try.func3, Try.ntmps3
    go_wp2_with fail
    go_ret
    exact ⟨rfl, Below.refl _ _⟩
  have HCODE := Lib.hid hc
  clear hc
  have HNEW := Lib.hid hNew
  clear hNew
  have HOK := Lib.hid hOk
  clear hOk
  have HIN := Lib.hid hIn
  clear hIn
  have HSTK := Lib.hid hStk
  clear hStk
  go_enter Try.func3, Try.ntmps3
  go_wp2_with fail
  refine (dDrawLockNew_any HCODE.out hcap hcap2).mono ?_
  rintro e w1 ⟨v0, v1, rfl, lo0, up0, lo1, up1, hb1⟩
  have HW1 := Lib.hid hb1
  clear hb1
  go_wp2_with fail
  refine (HNEW.out v0 v1).mono ?_
  generalize hDD : newL v0 v1 = DD
  generalize hBB : newB v0 v1 = BB
  have HDD := Lib.hid hDD
  have HBB := Lib.hid hBB
  clear hDD hBB
  rintro e w2 ⟨x0, x1, x2, f0, rfl, hm, hf, hsm, hb2⟩
  obtain ⟨xA1, xn1, xc1, xA2, xn2, xc2, hcs⟩ := tyLock_shM hm
  simp only [List.cons.injEq, and_true] at hcs
  obtain ⟨rfl, rfl, rfl⟩ := hcs
  have HW2 := Lib.hid (HW1.out.trans (hb2.mono HW1.out.size))
  have HX2 := Lib.hid (tyLock.mr hm fun b hb => (hf b hb).2)
  have HSM := Lib.hid hsm
  clear hm hf hsm hb2
  have HA2 := Lib.hid (show Below w2.heap.size w2 (w2.alloc (.cells #[.int .i64 DD.1, .slice xA1 xn1 xc1, .slice xA2 xn2 xc2] 28)) from (Below.refl _ _).alloc (Nat.le_refl _) _)
  have BX2 := Lib.hid (Box.new w2 #[.int .i64 DD.1, .slice xA1 xn1 xc1, .slice xA2 xn2 xc2] 28)
  go_wp2_with fail
  refine (lockNew_any v0 v1).mono ?_
  rw [HDD.out, HBB.out]
  rintro e w3 ⟨y0, y1, y2, f1, rfl, hm, hf, _, hb3⟩
  obtain ⟨yA1, yn1, yc1, yA2, yn2, yc2, hcs⟩ := tyLock_shM hm
  simp only [List.cons.injEq, and_true] at hcs
  obtain ⟨rfl, rfl, rfl⟩ := hcs
  have HC3 := Lib.hid (HA2.out.trans (hb3.mono HA2.out.size))
  have HW3 := Lib.hid (HW2.out.trans (HC3.out.mono HW2.out.size))
  have HX3 := Lib.hid (Ty.rb HX2.out HC3.out)
  have BX3 := Lib.hid (BX2.out.below hb3 (by simp))
  have HY3 := Lib.hid (tyLock.mr hm fun b hb => (hf b hb).2)
  clear hm hf hb3
  have HA3 := Lib.hid (show Below w3.heap.size w3 (w3.alloc (.cells #[.int .i64 DD.1, .slice yA1 yn1 yc1, .slice yA2 yn2 yc2] 28)) from (Below.refl _ _).alloc (Nat.le_refl _) _)
  have xc0 := BX3.out.cell 0
  have xc1' := BX3.out.cell 1
  have xc2' := BX3.out.cell 2
  simp at xc0 xc1' xc2'
  have xl := BX3.out.lt
  go_wp2_with fail
  refine (qdLock_t (Ty.rb HX3.out (HA3.out.mono HC3.out.size)) (Ty.rb HY3.out HA3.out)).mono ?_
  rintro e w4 ⟨rfl, hb4⟩
  have HC4 := Lib.hid (HA3.out.trans (hb4.mono HA3.out.size))
  have HW4 := Lib.hid (HW3.out.trans (HC4.out.mono HW3.out.size))
  have HX4 := Lib.hid (Ty.rb HX3.out (HC4.out.mono HC3.out.size))
  have BX4 := Lib.hid (BX3.out.below HC4.out BX3.out.lt)
  have HS4 := Lib.hid (Nat.le_trans HC3.out.size HC4.out.size)
  clear hb4 xc0 xc1' xc2' xl
  cases BB
  · go_wp2_with fail
    go_ret
    exact ⟨rfl, HW4.out⟩
  have HINV := Lib.hid (show LInv DD from by rw [← HDD.out]; unfold newL; rw [if_pos HBB.out]; exact new_inv HBB.out)
  have HO1 := Lib.hid (inv_ok HINV.out)
  have HO2 := Lib.hid (show inD DD = 0 from by
    unfold inD
    rw [HO1.out, if_pos rfl]
    refine inTo_zero fun i hi => ?_
    have hd : DD = newLk v0.toNat v1 := by rw [← HDD.out]; unfold newL; rw [if_pos HBB.out]
    rw [hd] at hi ⊢
    rw [th_new (by simpa [newLk] using hi)]
    show (0 : Int) ≠ 4
    decide)
  have HO3 := Lib.hid (inv_stuck HINV.out)
  have HO4 := Lib.hid (show DD.1 = 0 from by rw [← HDD.out]; unfold newL; rw [if_pos HBB.out]; rfl)
  have xc0 := BX4.out.cell 0
  have xc1' := BX4.out.cell 1
  have xc2' := BX4.out.cell 2
  simp at xc0 xc1' xc2'
  have xl := BX4.out.lt
  go_wp2_with fail
  refine (HOK.out HX4.out).mono ?_
  rw [HO1.out]
  rintro e w5 ⟨rfl, hb5⟩
  have HW5 := Lib.hid (HW4.out.trans (hb5.mono HW4.out.size))
  have HX5 := Lib.hid (Ty.rb HX4.out (hb5.mono HS4.out))
  have BX5 := Lib.hid (BX4.out.below hb5 BX4.out.lt)
  have HS5 := Lib.hid (Nat.le_trans HS4.out hb5.size)
  clear hb5
  clear xc0 xc1' xc2' xl
  have xc0 := BX5.out.cell 0
  have xc1' := BX5.out.cell 1
  have xc2' := BX5.out.cell 2
  simp at xc0 xc1' xc2'
  have xl := BX5.out.lt
  go_wp2_with fail
  refine (HIN.out HX5.out).mono ?_
  rw [HO2.out]
  rintro e w6 ⟨rfl, hb6⟩
  have HW6 := Lib.hid (HW5.out.trans (hb6.mono HW5.out.size))
  have HX6 := Lib.hid (Ty.rb HX5.out (hb6.mono HS5.out))
  have BX6 := Lib.hid (BX5.out.below hb6 BX5.out.lt)
  have HS6 := Lib.hid (Nat.le_trans HS5.out hb6.size)
  clear hb6
  clear xc0 xc1' xc2' xl
  have xc0 := BX6.out.cell 0
  have xc1' := BX6.out.cell 1
  have xc2' := BX6.out.cell 2
  simp at xc0 xc1' xc2'
  have xl := BX6.out.lt
  go_wp2_with fail
  refine (HSTK.out HX6.out).mono ?_
  rw [HO3.out]
  rintro e w7 ⟨rfl, hb7⟩
  have HW7 := Lib.hid (HW6.out.trans (hb7.mono HW6.out.size))
  have HX7 := Lib.hid (Ty.rb HX6.out (hb7.mono HS6.out))
  have BX7 := Lib.hid (BX6.out.below hb7 BX6.out.lt)
  have HS7 := Lib.hid (Nat.le_trans HS6.out hb7.size)
  clear hb7
  clear xc0 xc1' xc2' xl
  have xc0 := BX7.out.cell 0
  have xc1' := BX7.out.cell 1
  have xc2' := BX7.out.cell 2
  simp at xc0 xc1' xc2'
  have xl := BX7.out.lt
  rw [HO4.out] at xc0
  go_wp2_with fail
  go_ret
  exact ⟨rfl, HW7.out⟩
end
end Go.Proofs.Ytpnlmdnjpcjhjaa
