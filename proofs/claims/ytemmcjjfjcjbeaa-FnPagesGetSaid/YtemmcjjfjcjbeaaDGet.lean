/-
  FnPagesGet answers true for every code: the walk.
-/
import Derived.Test.YtemmcjjfjcjbeaaDraws
import Derived.Test.YtemmcjjfjcjbeaaSget
namespace Go.Proofs.Ytemmcjjfjcjbeaa
open Go.RowKit

section
variable {A : Option Addr} {n c : Nat} {w : World}
set_option maxHeartbeats 1000000 in
theorem dGet_walk (hc : Code w A n) (hcap : n ≤ c) (hcap2 : c ≤ maxLen) :
    Calls Try.prog 9 #[.slice A n c] w fun e w' => e = .returned (.bool true) ∧ Below w.heap.size w w' := by
  have hn := hc.1
  unfold maxLen at hn
  by_cases hbig : (1048576 : Int) < n
  · go_enter Try.func9, Try.ntmps9
    go_wp2_with fail
    go_ret
    exact ⟨rfl, Below.refl _ _⟩
  · have HCODE := Lib.hid hc
    clear hc
    go_enter Try.func9, Try.ntmps9
    go_wp2_with fail
    refine (drawGet_any HCODE.out hcap hcap2).mono ?_
    rintro e w1 ⟨C, n1, c1, D, m1, d1, ts, rs, x, rfl, hpg, x0, x1, hb1⟩
    have HW1 := Lib.hid hb1
    have HP1 := Lib.hid hpg
    clear hb1 hpg
    have HA1 := Lib.hid (show Below w1.heap.size w1 (w1.alloc (.cells #[.slice C n1 c1, .slice D m1 d1] 27)) from (Below.refl _ _).alloc (Nat.le_refl _) _)
    have B1 := Lib.hid (Box.new w1 #[.slice C n1 c1, .slice D m1 d1] 27)
    go_wp2_with fail
    refine (get_any x (HP1.out.below HA1.out)).mono ?_
    rintro e w2 ⟨rfl, hb2⟩
    have HB2 := Lib.hid (HA1.out.trans (hb2.mono (by simp)))
    have HW2 := Lib.hid (HW1.out.trans (HB2.out.mono HW1.out.size))
    have HP2 := Lib.hid (HP1.out.below HB2.out)
    have B2 := Lib.hid (B1.out.below hb2 (by simp))
    clear hb2
    have p0 := B2.out.cell 0
    have p1 := B2.out.cell 1
    have l1 := B2.out.lt
    simp at p0 p1
    go_wp2_with fail
    refine (gets_any x HP2.out).mono ?_
    rintro e w3 ⟨rfl, hb3⟩
    have HW3 := Lib.hid (HW2.out.trans (hb3.mono HW2.out.size))
    have HP3 := Lib.hid (HP2.out.below hb3)
    have B3 := Lib.hid (B2.out.below hb3 B2.out.lt)
    clear hb3 p0 p1 l1
    have p0 := B3.out.cell 0
    have p1 := B3.out.cell 1
    have l1 := B3.out.lt
    simp at p0 p1
    by_cases hu : usedB ts rs x = true
    · obtain ⟨k1, k2, k3⟩ := usedB_parts hu
      have hT := takenS_yes hu
      have hs := okP_size ((okPg_parts k1).2.2 x.toNat (by omega)) k3
      have hle := (okPg_parts k1).1
      have htl := HP3.out.tl
      obtain ⟨b, o, rfl, hb, hcell⟩ := HP3.out.tc (by omega)
      obtain ⟨k, rfl⟩ : ∃ k : Nat, x = k := ⟨x.toNat, by omega⟩
      have hkn : k < n1 := by omega
      have hck := hcell k hkn
      have hkn' : (k : Int) < n1 := by omega
      have hk0 : (0 : Int) ≤ k := by omega
      rw [hT] at *
      simp only [Int.toNat_natCast] at *
      clear hcell
      go_wp2_with fail
      go_ret
      exact ⟨by simp, HW3.out⟩
    · have hu' : usedB ts rs x = false := by simpa using hu
      go_wp2_with fail
      go_ret
      exact ⟨by simp, HW3.out⟩
end
end Go.Proofs.Ytemmcjjfjcjbeaa
