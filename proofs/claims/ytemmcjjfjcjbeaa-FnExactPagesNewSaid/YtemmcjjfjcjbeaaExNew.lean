/-
  FnExactPagesNew answers true for every number: the walk.
-/
import Derived.Test.YtemmcjjfjcjbeaaNew
namespace Go.Proofs.Ytemmcjjfjcjbeaa
open Go.RowKit

section
variable {w : World}
set_option maxHeartbeats 1000000 in
theorem exNew_walk (x : Int) :
    Calls Try.prog 11 #[.int .i64 x] w fun e w' => e = .returned (.bool true) ∧ Below w.heap.size w w' := by
  have hN := newN_le x
  go_enter Try.func11, Try.ntmps11
  go_wp2_with fail
  refine (news_any x).mono ?_
  rintro e w1 ⟨A, B, rfl, hg1, hb1⟩
  generalize hNe : newN x = N at hN hg1
  have HNE := Lib.hid hNe
  generalize hTe : List.replicate N ByteArray.empty = ts at hg1
  generalize hRe : List.replicate N (0 : Int) = rs at hg1
  have HTE := Lib.hid hTe
  have HRE := Lib.hid hRe
  clear hNe hTe hRe
  have HG1 := Lib.hid hg1
  have HW1 := Lib.hid hb1
  clear hg1 hb1
  go_wp2_with fail
  refine (new_any x).mono ?_
  rw [HNE.out, HTE.out, HRE.out]
  rintro e w2 ⟨C, D, rfl, hg2, hb2⟩
  have B3 := Lib.hid ((Box.new w1 #[.slice A N N, .slice B N N] 27).below hb2 (by simp))
  have HG2 := Lib.hid hg2
  have HPL := Lib.hid (HG1.out.pg.below (show Below w1.heap.size w1 (w1.alloc (.cells #[.slice A N N, .slice B N N] 27)) from (Below.refl _ _).alloc (Nat.le_refl _) _))
  have HL2 := Lib.hid hb2
  have HP1 := Lib.hid ((HG1.out.pg.below ((Below.refl _ _).alloc (Nat.le_refl _) _)).below hb2)
  have HW2 := Lib.hid (HW1.out.trans ((((Below.refl _ _).alloc (Nat.le_refl _) _).trans (hb2.mono (by simp))).mono HW1.out.size))
  clear hg2 hb2
  have l3 := B3.out.lt
  have p0 := B3.out.cell 0
  have p1 := B3.out.cell 1
  simp at p0 p1
  go_wp2_with fail
  have HA := Lib.hid (show Below w2.heap.size w2 (w2.alloc (.cells #[.slice C N N, .slice D N N] 27)) from (Below.refl _ _).alloc (Nat.le_refl _) _)
  have B5 := Lib.hid (Box.new w2 #[.slice C N N, .slice D N N] 27)
  refine (eqPages_any (HG2.out.pg.below HA.out) (HP1.out.below HA.out)).mono ?_
  rintro e w3 ⟨rfl, hb3⟩
  have HB := Lib.hid (HA.out.trans (hb3.mono (by simp)))
  have C3 := Lib.hid (B3.out.below HB.out l3)
  have C5 := Lib.hid (B5.out.below hb3 (by simp))
  have HG3 := Lib.hid (HG2.out.below HB.out)
  have HW3 := Lib.hid (HW2.out.trans (HB.out.mono HW2.out.size))
  have hz3 := HB.out.size
  clear hb3 p0 p1
  have p2 := C5.out.cell 0
  have p3 := C5.out.cell 1
  simp at p2 p3
  go_wp2_with fail
  refine (markPages_any 1 (by omega) (by omega) HG3.out).mono ?_
  rintro e w4 ⟨rfl, ho1, ho2, ht⟩
  have hbl := ht.below HG3.out (by have := HB.out.size; have := HG2.out.to; simp only [World.size_alloc]; omega)
  have HM1 := Lib.hid ho1.row
  have HM2 := Lib.hid ho2.row
  have HLW := Lib.hid ((HL2.out.trans (HB.out.mono HL2.out.size)).trans hbl)
  have D3 := Lib.hid (C3.out.below hbl (by simp))
  have D5 : Hid (Box w4 w2.heap.size #[.slice C N N, .slice D N N] 27) := Lib.hid ((ht.block w2.heap.size C5.out.lt (fun hn a e => by have := HG2.out.lt1 a hn e; omega) (fun hn a e => by have := HG2.out.lt2 a hn e; omega)).trans C5.out)
  have HW4 := Lib.hid (HW3.out.trans (hbl.mono (by have := HW1.out.size; simp only [World.size_alloc]; omega)))
  clear ho1 ho2 ht hbl p2 p3
  have p2 := D5.out.cell 0
  have p3 := D5.out.cell 1
  simp at p2 p3
  go_wp2_with fail
  refine (heldPages_any 1 (by omega) (by omega) (by omega) (by omega) HM1.out HM2.out).mono ?_
  rintro e w5 ⟨rfl, hb5⟩
  have E3 := Lib.hid (D3.out.below hb5 D3.out.lt)
  have E5 := Lib.hid (D5.out.below hb5 D5.out.lt)
  have H45 := Lib.hid hb5
  clear hb5 p2 p3
  go_wp2_with fail
  refine (new_any x).mono ?_
  rw [HNE.out, HTE.out, HRE.out]
  rintro e w6 ⟨C2, D2, rfl, hg6, hb6⟩
  have HG6 := Lib.hid hg6
  have H46 := Lib.hid (H45.out.trans (hb6.mono H45.out.size))
  have F3 := Lib.hid (E3.out.below hb6 E3.out.lt)
  have F5 := Lib.hid (E5.out.below hb6 E5.out.lt)
  have HA6 := Lib.hid (show Below w6.heap.size w6 (w6.alloc (.cells #[.slice C2 N N, .slice D2 N N] 27)) from (Below.refl _ _).alloc (Nat.le_refl _) _)
  have HP6 := Lib.hid (HPL.out.below (HLW.out.trans (H46.out.mono HLW.out.size)))
  clear hg6 hb6
  have l3 := F3.out.lt
  have p0 := F3.out.cell 0
  have p1 := F3.out.cell 1
  simp at p0 p1
  go_wp2_with fail
  refine (eqPages_any (HG6.out.pg.below HA6.out) (HP6.out.below HA6.out)).mono ?_
  rintro e w7 ⟨rfl, hb7⟩
  have G5 := Lib.hid ((F5.out.below HA6.out F5.out.lt).below hb7 (by have := F5.out.lt; simp only [World.size_alloc]; omega))
  have H47 := Lib.hid (H46.out.trans ((HA6.out.trans (hb7.mono (by simp))).mono H46.out.size))
  clear hb7 p0 p1
  have p2 := G5.out.cell 0
  have p3 := G5.out.cell 1
  simp at p2 p3
  go_wp2_with fail
  refine (heldPages_any 1 (by omega) (by omega) (by omega) (by omega) (HM1.out.below H47.out) (HM2.out.below H47.out)).mono ?_
  rintro e w8 ⟨rfl, hb8⟩
  clear p2 p3
  go_wp2
  go_ret
  exact ⟨rfl, HW4.out.trans ((H47.out.trans (hb8.mono H47.out.size)).mono HW4.out.size)⟩
end
end Go.Proofs.Ytemmcjjfjcjbeaa
