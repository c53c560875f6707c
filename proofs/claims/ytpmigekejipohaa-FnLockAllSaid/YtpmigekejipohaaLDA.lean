/-
  The walk of FnLockAll on drawn arguments.
-/
import Derived.Test.YtpmigekejipohaaLDraw1
import Derived.Test.YtpmigekejipohaaLS9
import Derived.Test.YtpmigekejipohaaLRow
import Derived.Test.YtpmigekejipohaaKOpen
namespace Go.Proofs.Ytpmigekejipohaa
open Go.RowKit

section
variable {A : Option Addr} {n c : Nat} {w : World}
set_option maxHeartbeats 4000000 in
set_option maxRecDepth 100000 in
theorem dLockAll_walk (hAll : KAll 37) (hc : Code w A n) (hcap : n ≤ c) (hcap2 : c ≤ maxLen) : Calls Try.prog 8 #[.slice A n c] w fun e w' => e = .returned (.bool true) ∧ Below w.heap.size w w' := by
  have hn := hc.1
  unfold maxLen at hn
  by_cases hbig : (1048576 : Int) < n
  · go_enter Try.func8, Try.ntmps8
    go_wp2_with fail
    go_ret
    exact ⟨rfl, Below.refl _ _⟩
  have HCODE := Lib.hid hc
  clear hc
  have HALL := Lib.hid hAll
  clear hAll
  have HW0 := Lib.hid (Below.refl w.heap.size w)
  go_enter Try.func8, Try.ntmps8
  have HA0 := Lib.hid (show Below w.heap.size w w from (Below.refl _ _))
  go_wp2_with fail
  refine (dDrawLockAll_any HCODE.out hcap hcap2).mono ?_
  rintro e w1 ⟨v0, v1, rfl, lo0, up0, lo1, up1, hb1⟩
  have HC1 := Lib.hid (HA0.out.trans (hb1.mono HA0.out.size))
  have HW1 := Lib.hid (HW0.out.trans (HC1.out.mono HW0.out.size))
  clear hb1
  cases h : allB v0 v1
  case false =>
    have HBF := Lib.hid h
    clear h
    go_wp2_with fail
    refine (HALL.out v0 v1).mono ?_
    rintro e w2 ⟨h1, _, hb⟩
    obtain rfl := h1 HBF.out
    have HB2 := Lib.hid (HW1.out.trans (hb.mono HW1.out.size))
    clear h1 hb
    go_wp2_with fail
    refine (lockAll_any v0 v1).mono ?_
    rintro e w3 ⟨h1, _, hb⟩
    obtain rfl := h1 HBF.out
    have HB3 := Lib.hid (HB2.out.trans (hb.mono HB2.out.size))
    clear h1 hb
    go_wp2_with fail
    go_ret
    exact ⟨rfl, HB3.out⟩
  have HBF := Lib.hid h
  have hn := h
  unfold allB at hn
  rw [Bool.and_eq_true, Bool.and_eq_true] at hn
  have hr1 := of_inB hn.1
  have hr2 := of_inB hn.2.1
  obtain ⟨N, rfl⟩ : ∃ N : Nat, v0 = N := ⟨v0.toNat, by omega⟩
  have HNB := Lib.hid (show newB N v1 = true from by unfold newB; rw [inB_of (by omega), inB_of (by omega)]; rfl)
  clear h hn
  go_wp2_with fail
  refine (HALL.out N v1).mono ?_
  rintro e w2 ⟨_, h1, hb⟩
  obtain ⟨i, he, rfl⟩ := h1 HBF.out
  rw [Int.toNat_natCast] at he ⊢
  have HE := Lib.hid he
  have HB2 := Lib.hid (HW1.out.trans (hb.mono HW1.out.size))
  obtain ⟨hmo, hlt⟩ := all_law HNB.out (by omega) he
  rw [hmo]
  have HMO := Lib.hid hmo
  clear h1 hb he hmo
  go_wp2_with fail
  refine (lockAll_any N v1).mono ?_
  rintro e w3 ⟨_, h1, hb⟩
  obtain ⟨j, he, rfl⟩ := h1 HBF.out
  rw [Int.toNat_natCast] at he ⊢
  obtain rfl : j = i := ends_one he HE.out
  rw [HMO.out]
  have HB3 := Lib.hid (HB2.out.trans (hb.mono HB2.out.size))
  have hlt2 : (N : Int) < j := by omega
  clear h1 hb he
  go_wp2_with fail
  go_ret
  exact ⟨rfl, HB3.out⟩
end
end Go.Proofs.Ytpmigekejipohaa
