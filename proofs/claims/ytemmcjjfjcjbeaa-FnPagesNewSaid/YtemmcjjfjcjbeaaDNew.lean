/-
  FnPagesNew answers true for every code: the walk.
-/
import Derived.Test.YtemmcjjfjcjbeaaOpen
import Derived.Test.YtemmcjjfjcjbeaaNew
import Derived.Test.YtemmcjjfjcjbeaaRoom
namespace Go.Proofs.Ytemmcjjfjcjbeaa
open Go.RowKit

theorem okPg_rep (n : Nat) (h1 : 1 ≤ n) (h2 : n ≤ 12) : okPg (List.replicate n .empty) (List.replicate n 0) = true :=
  okPg_all (by rw [List.length_replicate, List.length_replicate]) (by rw [List.length_replicate]; omega) fun k _ => by
    rw [getD_rep, getD_rep, okP_zero rfl]; simp
theorem freeTo_rep (n : Nat) : ∀ k, freeTo (List.replicate n 0) k = k
  | 0 => rfl
  | k + 1 => by rw [freeTo_yes (getD_rep _ _ _), freeTo_rep n k]; omega

section
variable {A : Option Addr} {n c : Nat} {w : World}
set_option maxHeartbeats 1000000 in
theorem dNew_walk (hc : Code w A n) (hcap : n ≤ c) (hcap2 : c ≤ maxLen) :
    Calls Try.prog 3 #[.slice A n c] w fun e w' => e = .returned (.bool true) ∧ Below w.heap.size w w' := by
  have hn := hc.1
  unfold maxLen at hn
  by_cases hbig : (1048576 : Int) < n
  · go_enter Try.func3, Try.ntmps3
    go_wp2_with fail
    go_ret
    exact ⟨rfl, Below.refl _ _⟩
  · have HCODE := Lib.hid hc
    clear hc
    go_enter Try.func3, Try.ntmps3
    go_wp2_with fail
    refine (drawNew_any HCODE.out hcap hcap2).mono ?_
    rintro e w1 ⟨x, rfl, hx0, hx1, hb1⟩
    have HW1 := Lib.hid hb1
    clear hb1
    have hN := newN_le x
    have HNX := Lib.hid (show inB x 1 12 = true → newN x = x.toNat from fun h => if_pos h)
    go_wp2_with fail
    refine (new_any x).mono ?_
    rintro e w2 ⟨C, D, rfl, hg2, hb2⟩
    have HW2 := Lib.hid (HW1.out.trans (hb2.mono HW1.out.size))
    have HG2 := Lib.hid hg2
    clear hg2 hb2
    generalize hNe : newN x = N at hN HG2
    have HNE := Lib.hid hNe
    clear hNe
    generalize hTe : List.replicate N ByteArray.empty = ts at HG2
    generalize hRe : List.replicate N (0 : Int) = rs at HG2
    have HTE := Lib.hid hTe
    have HRE := Lib.hid hRe
    clear hTe hRe
    have HA2 := Lib.hid (show Below w2.heap.size w2 (w2.alloc (.cells #[.slice C N N, .slice D N N] 27)) from (Below.refl _ _).alloc (Nat.le_refl _) _)
    have B2 := Lib.hid (Box.new w2 #[.slice C N N, .slice D N N] 27)
    go_wp2_with fail
    refine (news_any x).mono ?_
    rw [HNE.out, HTE.out, HRE.out]
    rintro e w3 ⟨E, F, rfl, hg3, hb3⟩
    have B3 := Lib.hid (B2.out.below hb3 (by simp))
    have HP2 := Lib.hid ((HG2.out.pg.below HA2.out).below hb3)
    have HG3 := Lib.hid hg3
    have HW3 := Lib.hid (HW2.out.trans ((HA2.out.trans (hb3.mono (by simp))).mono HW2.out.size))
    have l3 := B3.out.lt
    clear hg3 hb3
    have p0 := B3.out.cell 0
    have p1 := B3.out.cell 1
    simp at p0 p1
    have HA3 := Lib.hid (show Below w3.heap.size w3 (w3.alloc (.cells #[.slice E N N, .slice F N N] 27)) from (Below.refl _ _).alloc (Nat.le_refl _) _)
    go_wp2_with fail
    refine (qdPages_any (HP2.out.below HA3.out) (HG3.out.pg.below HA3.out)).mono ?_
    rintro e w4 ⟨rfl, hb4⟩
    have HB4 := Lib.hid (HA3.out.trans (hb4.mono (by simp)))
    have B4 := Lib.hid (B3.out.below HB4.out B3.out.lt)
    have HW4 := Lib.hid (HW3.out.trans (HB4.out.mono HW3.out.size))
    have HP4 := Lib.hid (HP2.out.below HB4.out)
    clear hb4 p0 p1
    by_cases hin : inB x 1 12 = true
    · have hin2 := of_inB hin
      have hNx : N = x.toNat := HNE.out.symm.trans (HNX.out hin)
      have HOK := Lib.hid (okPg_rep N (by omega) (by omega))
      have HRO : Hid (roomOf ts rs = x) := Lib.hid (by
        rw [← HTE.out, ← HRE.out, roomOf_yes HOK.out, List.length_replicate, freeTo_rep]; omega)
      have HOK2 : Hid (okPg ts rs = true) := Lib.hid (by rw [← HTE.out, ← HRE.out]; exact HOK.out)
      have HNXX := Lib.hid (show (N : Int) = x by omega)
      clear hin2 hNx
      have p0 := B4.out.cell 0
      have p1 := B4.out.cell 1
      simp at p0 p1
      go_wp2_with fail
      refine (ok_any HP4.out).mono ?_
      rw [HOK2.out]
      rintro e w5 ⟨rfl, hb5⟩
      have B5 := Lib.hid (B4.out.below hb5 B4.out.lt)
      have HB5 := Lib.hid hb5
      clear hb5 p0 p1
      have p0 := B5.out.cell 0
      have p1 := B5.out.cell 1
      simp at p0 p1
      go_wp2_with fail
      refine (room_any (HP4.out.below HB5.out)).mono ?_
      rw [HRO.out]
      rintro e w6 ⟨rfl, hb6⟩
      have B6 := Lib.hid (B5.out.below hb6 B5.out.lt)
      have HB6 := Lib.hid (HB5.out.trans (hb6.mono HB5.out.size))
      clear hb6 p0 p1
      have p0 := B6.out.cell 0
      have p1 := B6.out.cell 1
      simp at p0 p1
      have hNb : ((N : Int) == x) = true := by rw [beq_iff_eq]; exact HNXX.out
      go_wp2_with fail
      go_ret
      exact ⟨rfl, HW4.out.trans (HB6.out.mono HW4.out.size)⟩
    · have hin' : inB x 1 12 = false := by simpa using hin
      clear hin
      go_wp2_with fail
      go_ret
      exact ⟨rfl, HW4.out⟩
end
end Go.Proofs.Ytemmcjjfjcjbeaa
