/-
  FnPagesOk answers true for every code: the walk.
-/
import Derived.Test.YtemmcjjfjcjbeaaDraws
import Derived.Test.YtemmcjjfjcjbeaaOks
import Derived.Test.YtemmcjjfjcjbeaaRoom
namespace Go.Proofs.Ytemmcjjfjcjbeaa
open Go.RowKit

theorem room_ok (ts : List ByteArray) (rs : List Int) : okPg ts rs = decide (0 ≤ roomOf ts rs) := by
  cases h : okPg ts rs
  · rw [roomOf_no h]; rfl
  · rw [roomOf_yes h, decide_eq_true (freeTo_le rs rs.length).1]

section
variable {A : Option Addr} {n c : Nat} {w : World}
set_option maxHeartbeats 1000000 in
theorem dOk_walk (hc : Code w A n) (hcap : n ≤ c) (hcap2 : c ≤ maxLen) :
    Calls Try.prog 4 #[.slice A n c] w fun e w' => e = .returned (.bool true) ∧ Below w.heap.size w w' := by
  have hn := hc.1
  unfold maxLen at hn
  by_cases hbig : (1048576 : Int) < n
  · go_enter Try.func4, Try.ntmps4
    go_wp2_with fail
    go_ret
    exact ⟨rfl, Below.refl _ _⟩
  · have HCODE := Lib.hid hc
    clear hc
    go_enter Try.func4, Try.ntmps4
    go_wp2_with fail
    refine (drawOk_any HCODE.out hcap hcap2).mono ?_
    rintro e w1 ⟨C, n1, c1, D, m1, d1, ts, rs, rfl, hpg, hb1⟩
    have HW1 := Lib.hid hb1
    have HP1 := Lib.hid hpg
    clear hb1 hpg
    have HA1 := Lib.hid (show Below w1.heap.size w1 (w1.alloc (.cells #[.slice C n1 c1, .slice D m1 d1] 27)) from (Below.refl _ _).alloc (Nat.le_refl _) _)
    have B1 := Lib.hid (Box.new w1 #[.slice C n1 c1, .slice D m1 d1] 27)
    go_wp2_with fail
    refine (ok_any (HP1.out.below HA1.out)).mono ?_
    rintro e w2 ⟨rfl, hb2⟩
    have HB2 := Lib.hid (HA1.out.trans (hb2.mono (by simp)))
    have HW2 := Lib.hid (HW1.out.trans (HB2.out.mono HW1.out.size))
    have HP2 := Lib.hid (HP1.out.below HB2.out)
    have B2 := Lib.hid (B1.out.below hb2 (by simp))
    clear hb2
    have p0 := B2.out.cell 0
    have p1 := B2.out.cell 1
    have l1 := B2.out.lt
    simp at p0 p1
    go_wp2_with fail
    refine (oks_any HP2.out).mono ?_
    rintro e w3 ⟨rfl, hb3⟩
    have HW3 := Lib.hid (HW2.out.trans (hb3.mono HW2.out.size))
    have HP3 := Lib.hid (HP2.out.below hb3)
    have B3 := Lib.hid (B2.out.below hb3 B2.out.lt)
    clear hb3 p0 p1 l1
    have p0 := B3.out.cell 0
    have p1 := B3.out.cell 1
    have l1 := B3.out.lt
    simp at p0 p1
    go_wp2_with fail
    refine (room_any HP3.out).mono ?_
    rintro e w4 ⟨rfl, hb4⟩
    have HW4 := Lib.hid (HW3.out.trans (hb4.mono HW3.out.size))
    have hro := room_ok ts rs
    go_wp2_with fail
    go_ret
    exact ⟨rfl, HW4.out⟩
end
end Go.Proofs.Ytemmcjjfjcjbeaa
