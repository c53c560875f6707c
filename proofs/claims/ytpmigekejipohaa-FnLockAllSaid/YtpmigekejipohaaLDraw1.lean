/-
  The draws of what LockNew and LockAll are asked.
-/
import Derived.Test.YtpmigekejipohaaLS6s
import Derived.Test.YtpmigekejipohaaKOpen
namespace Go.Proofs.Ytpmigekejipohaa
open Go.RowKit

section
variable {A : Option Addr} {n c : Nat} {w : World}
/-- what DrawLockNew draws -/
def DDrawLockNew (w : World) (e : Ending) (w' : World) : Prop := ∃ (x0 x1 : Int), e = .returned (.tuple #[.int .i64 x0, .int .i64 x1]) ∧ 0 ≤ x0 ∧ x0 < 6 ∧ -1 ≤ x1 ∧ x1 < 5 ∧ Below w.heap.size w w'
set_option maxHeartbeats 1000000 in
set_option maxRecDepth 100000 in
theorem dDrawLockNew_any (hc : Code w A n) (hcap : n ≤ c) (hcap2 : c ≤ maxLen) : Calls Try.prog 19 #[.slice A n c] w (DDrawLockNew w) := by
  have HA0 := Lib.hid (show Below w.heap.size w w from (Below.refl _ _))
  go_enter Try.func19, Try.ntmps19
  go_wp2_with fail
  refine (open_any (hc.below HA0.out) hcap hcap2).mono ?_
  rintro e w1 ⟨A', n', c', rfl, hr, hb1⟩
  have hg := hr.box.lt
  have HB1 := Lib.hid (HA0.out.trans (hb1.mono HA0.out.size))
  have HT1 := Lib.hid (Touch.refl w1 (some ⟨w.heap.size, 0, none⟩) 1)
  have HR1 := Lib.hid hr
  clear hb1 hr
  go_wp2_with fail
  refine (pick2_any 6 (by omega) (by omega) HR1.out (by omega)).mono ?_
  rintro e w2 ⟨x2, rfl, lo2, up2, hrd, ht⟩
  have HR2 := Lib.hid hrd
  have HT2 := Lib.hid (HT1.out.trans ht)
  have hs2 := ht.size
  clear hrd ht
  go_wp2_with fail
  refine (pick2_any 6 (by omega) (by omega) HR2.out (by omega)).mono ?_
  rintro e w3 ⟨x3, rfl, lo3, up3, hrd, ht⟩
  have HT3 := Lib.hid (HT2.out.trans ht)
  have hs3 := ht.size
  clear hrd ht
  go_wp2_with fail
  exact bodyPost_ret (v := .tuple #[.int .i64 x2, .int .i64 (x3 - 1)]) (by simp [results, Try.results19, go_sem]) rfl ⟨x2, x3 - 1, rfl, lo2, up2, by omega, by omega, (HB1.out.trans (HT3.out.low (lo := w.heap.size) (by omega) (by omega)))⟩

/-- what DrawLockAll draws -/
def DDrawLockAll (w : World) (e : Ending) (w' : World) : Prop := ∃ (x0 x1 : Int), e = .returned (.tuple #[.int .i64 x0, .int .i64 x1]) ∧ 0 ≤ x0 ∧ x0 < 5 ∧ 0 ≤ x1 ∧ x1 < 4 ∧ Below w.heap.size w w'
set_option maxHeartbeats 1000000 in
set_option maxRecDepth 100000 in
theorem dDrawLockAll_any (hc : Code w A n) (hcap : n ≤ c) (hcap2 : c ≤ maxLen) : Calls Try.prog 36 #[.slice A n c] w (DDrawLockAll w) := by
  have HA0 := Lib.hid (show Below w.heap.size w w from (Below.refl _ _))
  go_enter Try.func36, Try.ntmps36
  go_wp2_with fail
  refine (open_any (hc.below HA0.out) hcap hcap2).mono ?_
  rintro e w1 ⟨A', n', c', rfl, hr, hb1⟩
  have hg := hr.box.lt
  have HB1 := Lib.hid (HA0.out.trans (hb1.mono HA0.out.size))
  have HT1 := Lib.hid (Touch.refl w1 (some ⟨w.heap.size, 0, none⟩) 1)
  have HR1 := Lib.hid hr
  clear hb1 hr
  go_wp2_with fail
  refine (pick2_any 5 (by omega) (by omega) HR1.out (by omega)).mono ?_
  rintro e w2 ⟨x2, rfl, lo2, up2, hrd, ht⟩
  have HR2 := Lib.hid hrd
  have HT2 := Lib.hid (HT1.out.trans ht)
  have hs2 := ht.size
  clear hrd ht
  go_wp2_with fail
  refine (pick2_any 4 (by omega) (by omega) HR2.out (by omega)).mono ?_
  rintro e w3 ⟨x3, rfl, lo3, up3, hrd, ht⟩
  have HT3 := Lib.hid (HT2.out.trans ht)
  have hs3 := ht.size
  clear hrd ht
  go_wp2_with fail
  exact bodyPost_ret (v := .tuple #[.int .i64 x2, .int .i64 (x3)]) (by simp [results, Try.results36, go_sem]) rfl ⟨x2, x3, rfl, lo2, up2, by omega, by omega, (HB1.out.trans (HT3.out.low (lo := w.heap.size) (by omega) (by omega)))⟩

end
end Go.Proofs.Ytpmigekejipohaa
