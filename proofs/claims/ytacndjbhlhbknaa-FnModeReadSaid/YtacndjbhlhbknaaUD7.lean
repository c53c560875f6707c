/-
  The walk of FnModeRead on drawn arguments.
-/
import Derived.Test.YtacndjbhlhbknaaUDraw3
import Derived.Test.YtacndjbhlhbknaaUD6
namespace Go.Proofs.Ytacndjbhlhbknaa
open Go.RowKit

section
variable {A : Option Addr} {n c : Nat} {w : World}
set_option maxHeartbeats 4000000 in
set_option maxRecDepth 100000 in
theorem dModeRead_walk (hm : CRead 29) (hb : CText 27) (hc : Code w A n) (hcap : n ≤ c) (hcap2 : c ≤ maxLen) : Calls Try.prog 6 #[.slice A n c] w fun e w' => e = .returned (.bool true) ∧ Below w.heap.size w w' := by
  have hn := hc.1
  unfold maxLen at hn
  by_cases hbig : (1048576 : Int) < n
  · go_enter Try.func6, Try.ntmps6
    go_wp2_with fail
    go_ret
    exact ⟨rfl, Below.refl _ _⟩
  have HCODE := Lib.hid hc
  clear hc
  have HM := Lib.hid hm
  clear hm
  have HB := Lib.hid hb
  clear hb
  have HW0 := Lib.hid (Below.refl w.heap.size w)
  go_enter Try.func6, Try.ntmps6
  have HA0 := Lib.hid (show Below w.heap.size w w from (Below.refl _ _))
  go_wp2_with fail
  refine (dDrawModeRead_any HCODE.out hcap hcap2).mono ?_
  rintro e w1 ⟨s, rfl, hs, hb1⟩
  have HC1 := Lib.hid (HA0.out.trans (hb1.mono HA0.out.size))
  have HW1 := Lib.hid (HW0.out.trans (HC1.out.mono HW0.out.size))
  clear hb1
  have HA1 := Lib.hid (show Below w1.heap.size w1 w1 from (Below.refl _ _))
  go_wp2_with fail
  refine (HM.out s (by unfold maxLen; omega)).mono ?_
  rintro e w2 ⟨rfl, hb2⟩
  have HC2 := Lib.hid (HA1.out.trans (hb2.mono HA1.out.size))
  have HW2 := Lib.hid (HW1.out.trans (HC2.out.mono HW1.out.size))
  clear hb2
  have HA2 := Lib.hid (show Below w2.heap.size w2 w2 from (Below.refl _ _))
  go_wp2_with fail
  refine (modeRead_any s (by unfold maxLen; omega)).mono ?_
  rintro e w3 ⟨rfl, hb3⟩
  have HC3 := Lib.hid (HA2.out.trans (hb3.mono HA2.out.size))
  have HW3 := Lib.hid (HW2.out.trans (HC3.out.mono HW2.out.size))
  clear hb3
  by_cases hi : readB s = true
  case neg =>
    have ht : readB s = false := by simpa using hi
    rw [ht]
    clear hi
    have HA3 := Lib.hid (show Below w3.heap.size w3 w3 from (Below.refl _ _))
    go_wp2_with fail
    go_ret
    exact ⟨ret_bool (by simp), HW3.out⟩
  have HT := Lib.hid (read_back hi)
  rw [hi]
  clear hi
  have HA3 := Lib.hid (show Below w3.heap.size w3 w3 from (Below.refl _ _))
  go_wp2_with fail
  refine (HB.out (readN s)).mono ?_
  rintro e w4 ⟨rfl, hb4⟩
  have HC4 := Lib.hid (HA3.out.trans (hb4.mono HA3.out.size))
  have HW4 := Lib.hid (HW3.out.trans (HC4.out.mono HW3.out.size))
  clear hb4
  rw [HT.out]
  have HA4 := Lib.hid (show Below w4.heap.size w4 w4 from (Below.refl _ _))
  go_wp2_with fail
  go_ret
  exact ⟨ret_bool (by simp), HW4.out⟩
end
end Go.Proofs.Ytacndjbhlhbknaa
