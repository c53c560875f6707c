/-
  The walk of FnSigsNext on drawn arguments.
-/
import Derived.Test.YtncinocpdeokgaaGDraw3
import Derived.Test.YtncinocpdeokgaaTqSigs
import Derived.Test.YtncinocpdeokgaaGSs
namespace Go.Proofs.Ytncinocpdeokgaa
open Go.RowKit

section
variable {A : Option Addr} {n c : Nat} {w : World}
set_option maxHeartbeats 4000000 in
set_option maxRecDepth 100000 in
theorem dSigsNext_walk (hOk : GOk 26) (hNxt : GNxt 23) (hc : Code w A n) (hcap : n ≤ c) (hcap2 : c ≤ maxLen) : Calls Try.prog 8 #[.slice A n c] w fun e w' => e = .returned (.bool true) ∧ Below w.heap.size w w' := by
  have hn := hc.1
  unfold maxLen at hn
  by_cases hbig : (1048576 : Int) < n
  · go_enter Try.func8, Try.ntmps8
    go_wp2_with fail
    go_ret
    exact ⟨rfl, Below.refl _ _⟩
  have HCODE := Lib.hid hc
  clear hc
  have HOK := Lib.hid hOk
  clear hOk
  have HNXT := Lib.hid hNxt
  clear hNxt
  have HW0 := Lib.hid (Below.refl w.heap.size w)
  go_enter Try.func8, Try.ntmps8
  have HA0 := Lib.hid (show Below w.heap.size w w from (Below.refl _ _))
  go_wp2_with fail
  refine (dDrawSigsNext_any HCODE.out hcap hcap2).mono ?_
  rintro e w1 ⟨y00, y01, y02, D0, rfl, hr0, hs0, hb1⟩
  have HC1 := Lib.hid (HA0.out.trans (hb1.mono HA0.out.size))
  have HW1 := Lib.hid (HW0.out.trans (HC1.out.mono HW0.out.size))
  clear hb1
  obtain ⟨A00, n00, c00, A01, n01, c01, A02, n02, c02, hcs⟩ := tySigs_sh hr0
  simp only [List.cons.injEq, and_true] at hcs
  obtain ⟨rfl, rfl, rfl⟩ := hcs
  obtain ⟨H0, B0, L0⟩ := D0
  have HS0 := Lib.hid hs0
  have HR0_1 := Lib.hid (hr0)
  clear hr0 hs0
  have HA1 := Lib.hid (show Below w1.heap.size w1 (w1.alloc (.cells #[.slice A00 n00 c00, .slice A01 n01 c01, .slice A02 n02 c02] 26)) from ((Below.refl _ _).alloc (Nat.le_refl _) _))
  go_wp2_with fail
  refine (HNXT.out (Ty.below_w HR0_1.out HA1.out) HS0.out).mono ?_
  rintro e w2 ⟨a0, a1, a2, fp0, rfl, hm0, hf0, hsm0, hb2⟩
  have HC2 := Lib.hid (HA1.out.trans (hb2.mono HA1.out.size))
  have HW2 := Lib.hid (HW1.out.trans (HC2.out.mono HW1.out.size))
  have HR0_2 := Lib.hid (Ty.below_w HR0_1.out HC2.out)
  have C0_2 := Lib.hid ((Box.new w1 #[.slice A00 n00 c00, .slice A01 n01 c01, .slice A02 n02 c02] 26).below hb2 (by simp only [World.size_alloc]; omega))
  clear hb2
  have HSA := Lib.hid hsm0
  clear hsm0
  obtain ⟨E00, m00, o00, E01, m01, o01, E02, m02, o02, hcs⟩ := tySigs_shM hm0
  simp only [List.cons.injEq, and_true] at hcs
  obtain ⟨rfl, rfl, rfl⟩ := hcs
  have HQ0_2 := Lib.hid (tySigs.mr hm0 fun b hb => (hf0 b hb).2)
  clear hm0 hf0
  have HA2 := Lib.hid (show Below w2.heap.size w2 (w2.alloc (.cells #[.slice E00 m00 o00, .slice E01 m01 o01, .slice E02 m02 o02] 26)) from ((Below.refl _ _).alloc (Nat.le_refl _) _))
  have c0_c0 := C0_2.out.cell 0
  have c0_c1 := C0_2.out.cell 1
  have c0_c2 := C0_2.out.cell 2
  simp at c0_c0 c0_c1 c0_c2
  have c0_l := C0_2.out.lt
  go_wp2_with fail
  refine (sigsNxt_s (Ty.below_w HR0_2.out HA2.out) HS0.out).mono ?_
  rintro e w3 ⟨b0, b1, b2, rfl, hm1, hb3⟩
  clear c0_c0 c0_c1 c0_c2 c0_l
  have HC3 := Lib.hid (HA2.out.trans (hb3.mono HA2.out.size))
  have HW3 := Lib.hid (HW2.out.trans (HC3.out.mono HW2.out.size))
  have HR0_3 := Lib.hid (Ty.below_w HR0_2.out HC3.out)
  have HQ0_3 := Lib.hid (Ty.below_w HQ0_2.out HC3.out)
  have C0_3 := Lib.hid (C0_2.out.below HC3.out C0_2.out.lt)
  have X_3 := Lib.hid ((Box.new w2 #[.slice E00 m00 o00, .slice E01 m01 o01, .slice E02 m02 o02] 26).below hb3 (by simp only [World.size_alloc]; omega))
  clear hb3
  obtain ⟨F10, m10, o10, F11, m11, o11, F12, m12, o12, hcs⟩ := tySigs_sh hm1
  simp only [List.cons.injEq, and_true] at hcs
  obtain ⟨rfl, rfl, rfl⟩ := hcs
  have HQ1_3 := Lib.hid (hm1)
  clear hm1
  have HA3 := Lib.hid (show Below w3.heap.size w3 (w3.alloc (.cells #[.slice F10 m10 o10, .slice F11 m11 o11, .slice F12 m12 o12] 26)) from ((Below.refl _ _).alloc (Nat.le_refl _) _))
  have c0_c0 := C0_3.out.cell 0
  have c0_c1 := C0_3.out.cell 1
  have c0_c2 := C0_3.out.cell 2
  have x_c0 := X_3.out.cell 0
  have x_c1 := X_3.out.cell 1
  have x_c2 := X_3.out.cell 2
  simp at c0_c0 c0_c1 c0_c2 x_c0 x_c1 x_c2
  have c0_l := C0_3.out.lt
  have x_l := X_3.out.lt
  go_wp2_with fail
  refine (qdSigs_t (Ty.below_w HQ0_3.out HA3.out) (Ty.below_w HQ1_3.out HA3.out)).mono ?_
  rintro e w4 ⟨rfl, hb4⟩
  clear c0_c0 c0_c1 c0_c2 x_c0 x_c1 x_c2 c0_l x_l
  have HC4 := Lib.hid (HA3.out.trans (hb4.mono HA3.out.size))
  have HW4 := Lib.hid (HW3.out.trans (HC4.out.mono HW3.out.size))
  have HR0_4 := Lib.hid (Ty.below_w HR0_3.out HC4.out)
  have HQ0_4 := Lib.hid (Ty.below_w HQ0_3.out HC4.out)
  have HQ1_4 := Lib.hid (Ty.below_w HQ1_3.out HC4.out)
  have C0_4 := Lib.hid (C0_3.out.below HC4.out C0_3.out.lt)
  have X_4 := Lib.hid (X_3.out.below HC4.out X_3.out.lt)
  have Y_4 := Lib.hid ((Box.new w3 #[.slice F10 m10 o10, .slice F11 m11 o11, .slice F12 m12 o12] 26).below hb4 (by simp only [World.size_alloc]; omega))
  clear hb4
  have hbn : (nxtN (H0, B0, L0) == nxtN (H0, B0, L0)) = true := by simp
  have hbx : (nxtX (H0, B0, L0) == nxtX (H0, B0, L0)) = true := by simp
  have hbb : (nxtB (H0, B0, L0) == nxtB (H0, B0, L0)) = true := by simp
  by_cases h0 : nxtB (H0, B0, L0) = true
  case neg =>
    have h0' : nxtB (H0, B0, L0) = false := by simpa using h0
    rw [h0']
    clear h0
    have HA4 := Lib.hid (show Below w4.heap.size w4 w4 from (Below.refl _ _))
    have c0_c0 := C0_4.out.cell 0
    have c0_c1 := C0_4.out.cell 1
    have c0_c2 := C0_4.out.cell 2
    have x_c0 := X_4.out.cell 0
    have x_c1 := X_4.out.cell 1
    have x_c2 := X_4.out.cell 2
    have y_c0 := Y_4.out.cell 0
    have y_c1 := Y_4.out.cell 1
    have y_c2 := Y_4.out.cell 2
    simp at c0_c0 c0_c1 c0_c2 x_c0 x_c1 x_c2 y_c0 y_c1 y_c2
    have c0_l := C0_4.out.lt
    have x_l := X_4.out.lt
    have y_l := Y_4.out.lt
    go_wp2_with fail
    go_ret
    exact ⟨rfl, HW4.out⟩
  obtain ⟨hs, k, hk, eN, _, hHk, hBk, hlow, eD⟩ := nxt_got h0
  have HSG := Lib.hid (sig_iff.1 hs)
  have HOK1 := Lib.hid (nxt_ok (k := k) hs)
  have HSO := Lib.hid (sig_iff.1 (nxt_ok (k := k) hs))
  have HLOW := Lib.hid hlow
  have HHK := Lib.hid hHk
  have HBK := Lib.hid hBk
  clear hbn
  have HQ0_4 := Lib.hid (by have h := HQ0_4.out; rw [eD] at h; exact h)
  rw [h0, eN]
  have hbn : ((k : Int) + 1 == (k : Int) + 1) = true := by simp
  generalize nxtX (H0, B0, L0) = X at hbx ⊢
  clear h0 hs eN eD hlow hHk hBk hbb
  obtain ⟨bx0, ax0, _, bx1, ax1, _, bx2, ax2, _, hx0, hx1, hx2, hx⟩ := read8 HQ0_4.out HSO.out.1 HSO.out.2.1 HSO.out.2.2.1
  simp only [Value.slice.injEq] at hx0 hx1 hx2
  obtain ⟨rfl, rfl, rfl⟩ := hx0
  obtain ⟨rfl, rfl, rfl⟩ := hx1
  obtain ⟨rfl, rfl, rfl⟩ := hx2
  have EX_4 := Lib.hid hx
  clear hx
  obtain ⟨bs0, as0, _, bs1, as1, _, bs2, as2, _, hx0, hx1, hx2, hx⟩ := read8 HR0_4.out HSG.out.1 HSG.out.2.1 HSG.out.2.2.1
  simp only [Value.slice.injEq] at hx0 hx1 hx2
  obtain ⟨rfl, rfl, rfl⟩ := hx0
  obtain ⟨rfl, rfl, rfl⟩ := hx1
  obtain ⟨rfl, rfl, rfl⟩ := hx2
  have E0_4 := Lib.hid hx
  clear hx
  have HA4 := Lib.hid (show Below w4.heap.size w4 w4 from (Below.refl _ _))
  have c0_c0 := C0_4.out.cell 0
  have c0_c1 := C0_4.out.cell 1
  have c0_c2 := C0_4.out.cell 2
  have x_c0 := X_4.out.cell 0
  have x_c1 := X_4.out.cell 1
  have x_c2 := X_4.out.cell 2
  have y_c0 := Y_4.out.cell 0
  have y_c1 := Y_4.out.cell 1
  have y_c2 := Y_4.out.cell 2
  simp at c0_c0 c0_c1 c0_c2 x_c0 x_c1 x_c2 y_c0 y_c1 y_c2
  have c0_l := C0_4.out.lt
  have x_l := X_4.out.lt
  have y_l := Y_4.out.lt
  go_wp2_with fail
  clear c0_c0 c0_c1 c0_c2 x_c0 x_c1 x_c2 y_c0 y_c1 y_c2 c0_l x_l y_l
  clear hbn hbx
  go_loopw [13] (fun i wr => ∃ j : Nat, j ≤ 8 ∧ i = .int .i64 j ∧ Below w4.heap.size w4 wr) (fun i _ => 8 - (intOf i).toNat)
  case atStart => exact ⟨0, by omega, rfl, Below.refl _ _⟩
  case round =>
    obtain ⟨j, hj, rfl, hb⟩ := hrel
    have HC20 := Lib.hid hb
    have HW20 := Lib.hid (HW4.out.trans (HC20.out.mono HW4.out.size))
    have HR0_20 := Lib.hid (Ty.below_w HR0_4.out HC20.out)
    have HQ0_20 := Lib.hid (Ty.below_w HQ0_4.out HC20.out)
    have HQ1_20 := Lib.hid (Ty.below_w HQ1_4.out HC20.out)
    have C0_20 := Lib.hid (C0_4.out.below HC20.out C0_4.out.lt)
    have X_20 := Lib.hid (X_4.out.below HC20.out X_4.out.lt)
    have Y_20 := Lib.hid (Y_4.out.below HC20.out Y_4.out.lt)
    have EX_20 := Lib.hid (EX_4.out.below HC20.out)
    have E0_20 := Lib.hid (E0_4.out.below HC20.out)
    clear hb
    by_cases hlt : j < 8
    case neg =>
      obtain rfl : j = 8 := by omega
      have r0 := E0_20.out.c0 k hk
      have r1 := E0_20.out.c1 k hk
      have r2 := EX_20.out.c0 k hk
      dsimp only at r0 r1 r2
      rw [HHK.out] at r0
      rw [HBK.out] at r1
      rw [getD_set' H0 k k false false (by rw [HSG.out.1]; exact hk), if_pos rfl] at r2
      have hk1 : IntKind.i64.wrap ((k : Int) + 1 - 1) = (k : Int) := by rw [IntWalk.i64_in _ (by omega)]; omega
      have hk3 : (0 : Int) ≤ k := by omega
      have hk4 : (k : Int) < 8 := by omega
      have HA20 := Lib.hid (show Below wr.heap.size wr wr from (Below.refl _ _))
      have c0_c0 := C0_20.out.cell 0
      have c0_c1 := C0_20.out.cell 1
      have c0_c2 := C0_20.out.cell 2
      have x_c0 := X_20.out.cell 0
      have x_c1 := X_20.out.cell 1
      have x_c2 := X_20.out.cell 2
      have y_c0 := Y_20.out.cell 0
      have y_c1 := Y_20.out.cell 1
      have y_c2 := Y_20.out.cell 2
      simp at c0_c0 c0_c1 c0_c2 x_c0 x_c1 x_c2 y_c0 y_c1 y_c2
      have c0_l := C0_20.out.lt
      have x_l := X_20.out.lt
      have y_l := Y_20.out.lt
      go_wp2_with fail
      refine (HOK.out (Ty.below_w HQ0_20.out HA20.out)).mono ?_
      rintro e w21 ⟨rfl, hb21⟩
      clear c0_c0 c0_c1 c0_c2 x_c0 x_c1 x_c2 y_c0 y_c1 y_c2 c0_l x_l y_l
      have HC21 := Lib.hid (HA20.out.trans (hb21.mono HA20.out.size))
      have HW21 := Lib.hid (HW20.out.trans (HC21.out.mono HW20.out.size))
      have HR0_21 := Lib.hid (Ty.below_w HR0_20.out HC21.out)
      have HQ0_21 := Lib.hid (Ty.below_w HQ0_20.out HC21.out)
      have HQ1_21 := Lib.hid (Ty.below_w HQ1_20.out HC21.out)
      have C0_21 := Lib.hid (C0_20.out.below HC21.out C0_20.out.lt)
      have X_21 := Lib.hid (X_20.out.below HC21.out X_20.out.lt)
      have Y_21 := Lib.hid (Y_20.out.below HC21.out Y_20.out.lt)
      clear hb21
      have EX_21 := Lib.hid (EX_20.out.below HC21.out)
      have E0_21 := Lib.hid (E0_20.out.below HC21.out)
      rw [HOK1.out]
      clear r0 r1 r2
      have HA21 := Lib.hid (show Below w21.heap.size w21 w21 from (Below.refl _ _))
      have c0_c0 := C0_21.out.cell 0
      have c0_c1 := C0_21.out.cell 1
      have c0_c2 := C0_21.out.cell 2
      have x_c0 := X_21.out.cell 0
      have x_c1 := X_21.out.cell 1
      have x_c2 := X_21.out.cell 2
      have y_c0 := Y_21.out.cell 0
      have y_c1 := Y_21.out.cell 1
      have y_c2 := Y_21.out.cell 2
      simp at c0_c0 c0_c1 c0_c2 x_c0 x_c1 x_c2 y_c0 y_c1 y_c2
      have c0_l := C0_21.out.lt
      have x_l := X_21.out.lt
      have y_l := Y_21.out.lt
      go_wp2_with fail
      go_ret
      exact ⟨rfl, HW21.out⟩
    have hj1 : (j : Int) < 8 := by omega
    have hj2 : (0 : Int) ≤ j := by omega
    have r0 := E0_20.out.c0 j hlt
    have r1 := E0_20.out.c1 j hlt
    have r2 := EX_20.out.c0 j hlt
    dsimp only at r0 r1 r2
    rw [getD_set' H0 k j false false (by rw [HSG.out.1]; exact hk)] at r2
    have HLJ := Lib.hid (HLOW.out j)
    generalize H0.getD j false = a at r0 r2 HLJ
    generalize B0.getD j false = bb at r1 HLJ
    rcases Nat.lt_trichotomy j k with h | h | h
    · rw [if_neg (by omega)] at r2
      have hz1 : (j : Int) < k := by omega
      have hz2 : ¬ (j = k) := by omega
      have hz3 : ¬ ((j : Int) = k) := by omega
      have hz4 : ((j : Int) + 1 != (k : Int) + 1) = true := by rw [bne_iff_ne]; omega
      have hz5 : (j : Int) + 1 < (k : Int) + 1 := by omega
      have HL2 := Lib.hid (HLJ.out h)
      clear h
      cases a
      · cases bb
        · have c0_c0 := C0_20.out.cell 0
          have c0_c1 := C0_20.out.cell 1
          have c0_c2 := C0_20.out.cell 2
          have x_c0 := X_20.out.cell 0
          have x_c1 := X_20.out.cell 1
          have x_c2 := X_20.out.cell 2
          have y_c0 := Y_20.out.cell 0
          have y_c1 := Y_20.out.cell 1
          have y_c2 := Y_20.out.cell 2
          simp at c0_c0 c0_c1 c0_c2 x_c0 x_c1 x_c2 y_c0 y_c1 y_c2
          have c0_l := C0_20.out.lt
          have x_l := X_20.out.lt
          have y_l := Y_20.out.lt
          go_wp2_with fail
          go_quiet (fail)
          go_wp2_with fail
          go_roundw
          case rel => exact ⟨j + 1, by omega, by go_num, HC20.out.trans ((bel_drewN (Below.refl _ _) _).mono HC20.out.size)⟩
          case measure => simp [intOf]; omega
        · have c0_c0 := C0_20.out.cell 0
          have c0_c1 := C0_20.out.cell 1
          have c0_c2 := C0_20.out.cell 2
          have x_c0 := X_20.out.cell 0
          have x_c1 := X_20.out.cell 1
          have x_c2 := X_20.out.cell 2
          have y_c0 := Y_20.out.cell 0
          have y_c1 := Y_20.out.cell 1
          have y_c2 := Y_20.out.cell 2
          simp at c0_c0 c0_c1 c0_c2 x_c0 x_c1 x_c2 y_c0 y_c1 y_c2
          have c0_l := C0_20.out.lt
          have x_l := X_20.out.lt
          have y_l := Y_20.out.lt
          go_wp2_with fail
          go_quiet (fail)
          go_wp2_with fail
          go_roundw
          case rel => exact ⟨j + 1, by omega, by go_num, HC20.out.trans ((bel_drewN (Below.refl _ _) _).mono HC20.out.size)⟩
          case measure => simp [intOf]; omega
      · cases bb
        · exact absurd ⟨rfl, rfl⟩ HL2.out
        · have c0_c0 := C0_20.out.cell 0
          have c0_c1 := C0_20.out.cell 1
          have c0_c2 := C0_20.out.cell 2
          have x_c0 := X_20.out.cell 0
          have x_c1 := X_20.out.cell 1
          have x_c2 := X_20.out.cell 2
          have y_c0 := Y_20.out.cell 0
          have y_c1 := Y_20.out.cell 1
          have y_c2 := Y_20.out.cell 2
          simp at c0_c0 c0_c1 c0_c2 x_c0 x_c1 x_c2 y_c0 y_c1 y_c2
          have c0_l := C0_20.out.lt
          have x_l := X_20.out.lt
          have y_l := Y_20.out.lt
          go_wp2_with fail
          go_quiet (fail)
          go_wp2_with fail
          go_roundw
          case rel => exact ⟨j + 1, by omega, by go_num, HC20.out.trans ((bel_drewN (Below.refl _ _) _).mono HC20.out.size)⟩
          case measure => simp [intOf]; omega
    · subst h
      rw [if_pos rfl] at r2
      have hz5 : ¬ ((j : Int) + 1 < (j : Int) + 1) := by omega
      have hz4 : ((j : Int) + 1 != (j : Int) + 1) = false := by simp
      have c0_c0 := C0_20.out.cell 0
      have c0_c1 := C0_20.out.cell 1
      have c0_c2 := C0_20.out.cell 2
      have x_c0 := X_20.out.cell 0
      have x_c1 := X_20.out.cell 1
      have x_c2 := X_20.out.cell 2
      have y_c0 := Y_20.out.cell 0
      have y_c1 := Y_20.out.cell 1
      have y_c2 := Y_20.out.cell 2
      simp at c0_c0 c0_c1 c0_c2 x_c0 x_c1 x_c2 y_c0 y_c1 y_c2
      have c0_l := C0_20.out.lt
      have x_l := X_20.out.lt
      have y_l := Y_20.out.lt
      go_wp2_with fail
      go_quiet (fail)
      go_wp2_with fail
      go_roundw
      case rel => exact ⟨j + 1, by omega, by go_num, HC20.out.trans ((bel_drewN (Below.refl _ _) _).mono HC20.out.size)⟩
      case measure => simp [intOf]; omega
    · rw [if_neg (by omega)] at r2
      have hz1 : ¬ ((j : Int) < k) := by omega
      have hz2 : ¬ (j = k) := by omega
      have hz3 : ¬ ((j : Int) = k) := by omega
      have hz4 : ((j : Int) + 1 != (k : Int) + 1) = true := by rw [bne_iff_ne]; omega
      have hz5 : ¬ ((j : Int) + 1 < (k : Int) + 1) := by omega
      have hz6 : ¬ (j < k) := by omega
      have hz7 : k ≤ j := by omega
      have hz8 : (k : Int) ≤ (j : Int) := by omega
      clear h
      cases a
      · have c0_c0 := C0_20.out.cell 0
        have c0_c1 := C0_20.out.cell 1
        have c0_c2 := C0_20.out.cell 2
        have x_c0 := X_20.out.cell 0
        have x_c1 := X_20.out.cell 1
        have x_c2 := X_20.out.cell 2
        have y_c0 := Y_20.out.cell 0
        have y_c1 := Y_20.out.cell 1
        have y_c2 := Y_20.out.cell 2
        simp at c0_c0 c0_c1 c0_c2 x_c0 x_c1 x_c2 y_c0 y_c1 y_c2
        have c0_l := C0_20.out.lt
        have x_l := X_20.out.lt
        have y_l := Y_20.out.lt
        go_wp2_with fail
        go_quiet (fail)
        go_wp2_with fail
        go_roundw
        case rel => exact ⟨j + 1, by omega, by go_num, HC20.out.trans ((bel_drewN (Below.refl _ _) _).mono HC20.out.size)⟩
        case measure => simp [intOf]; omega
      · have c0_c0 := C0_20.out.cell 0
        have c0_c1 := C0_20.out.cell 1
        have c0_c2 := C0_20.out.cell 2
        have x_c0 := X_20.out.cell 0
        have x_c1 := X_20.out.cell 1
        have x_c2 := X_20.out.cell 2
        have y_c0 := Y_20.out.cell 0
        have y_c1 := Y_20.out.cell 1
        have y_c2 := Y_20.out.cell 2
        simp at c0_c0 c0_c1 c0_c2 x_c0 x_c1 x_c2 y_c0 y_c1 y_c2
        have c0_l := C0_20.out.lt
        have x_l := X_20.out.lt
        have y_l := Y_20.out.lt
        go_wp2_with fail
        go_quiet (fail)
        go_wp2_with fail
        go_roundw
        case rel => exact ⟨j + 1, by omega, by go_num, HC20.out.trans ((bel_drewN (Below.refl _ _) _).mono HC20.out.size)⟩
        case measure => simp [intOf]; omega
end
end Go.Proofs.Ytncinocpdeokgaa
