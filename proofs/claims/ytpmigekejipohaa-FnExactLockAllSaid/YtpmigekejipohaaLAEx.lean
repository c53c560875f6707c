/-
  The walk of the exact law of LockAll.
-/
import Derived.Test.YtpmigekejipohaaLS9
namespace Go.Proofs.Ytpmigekejipohaa
open Go.RowKit

set_option maxHeartbeats 4000000 in
set_option maxRecDepth 100000 in
theorem exLockAll_walk (hall : KAll 37) {w : World} (n t : Int) : Calls Try.prog 18 #[.int .i64 n, .int .i64 t] w fun e w' => e = .returned (.bool true) ∧ Below w.heap.size w w' := by
  have HA := Lib.hid hall
  clear hall
  cases h : allB n t
  case false =>
    have HB := Lib.hid h
    clear h
    go_enter Try.func18, Try.ntmps18
    go_wp2_with fail
    refine (lockAll_any n t).mono ?_
    rintro e w1 ⟨h1, _, hb⟩
    obtain rfl := h1 HB.out
    have HB1 := Lib.hid hb
    clear h1 hb
    go_wp2_with fail
    refine (HA.out n t).mono ?_
    rintro e w2 ⟨h1, _, hb⟩
    obtain rfl := h1 HB.out
    have HB2 := Lib.hid (HB1.out.trans (hb.mono HB1.out.size))
    clear h1 hb
    go_wp2_with fail
    go_ret
    exact ⟨rfl, HB2.out⟩
  case true =>
    have HB := Lib.hid h
    clear h
    go_enter Try.func18, Try.ntmps18
    go_wp2_with fail
    refine (lockAll_any n t).mono ?_
    rintro e w1 ⟨_, h1, hb⟩
    obtain ⟨i, he, rfl⟩ := h1 HB.out
    have HE := Lib.hid he
    have HB1 := Lib.hid hb
    obtain ⟨m, hm⟩ : ∃ m, mostTo (bfs (newLk n.toNat t) n.toNat i) i = m := ⟨_, rfl⟩
    have HM := Lib.hid hm
    rw [hm]
    clear h1 hb he hm
    go_wp2_with fail
    refine (HA.out n t).mono ?_
    rintro e w2 ⟨_, h1, hb⟩
    obtain ⟨j, he, rfl⟩ := h1 HB.out
    obtain rfl : j = i := ends_one he HE.out
    rw [HM.out]
    have HB2 := Lib.hid (HB1.out.trans (hb.mono HB1.out.size))
    clear h1 hb he
    go_wp2_with fail
    go_ret
    exact ⟨rfl, HB2.out⟩
end Go.Proofs.Ytpmigekejipohaa
