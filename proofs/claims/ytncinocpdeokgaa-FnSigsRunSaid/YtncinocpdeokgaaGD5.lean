/-
  The walk of FnSigsRun on drawn arguments.
-/
import Derived.Test.YtncinocpdeokgaaGDraw3
import Derived.Test.YtncinocpdeokgaaTqSigs
import Derived.Test.YtncinocpdeokgaaGSs
namespace Go.Proofs.Ytncinocpdeokgaa
open Go.RowKit

section
variable {A : Option Addr} {n c : Nat} {w : World}
set_option maxHeartbeats 4000000 in
set_option maxRecDepth 100000 in
theorem dSigsRun_walk (hOk : GOk 26) (hRun : GRun 46) (hc : Code w A n) (hcap : n ≤ c) (hcap2 : c ≤ maxLen) : Calls Try.prog 10 #[.slice A n c] w fun e w' => e = .returned (.bool true) ∧ Below w.heap.size w w' := by
  have hn := hc.1
  unfold maxLen at hn
  by_cases hbig : (1048576 : Int) < n
  · go_enter Try.func10, Try.ntmps10
    go_wp2_with fail
    go_ret
    exact ⟨rfl, Below.refl _ _⟩
  have HCODE := Lib.hid hc
  clear hc
  have HOK := Lib.hid hOk
  clear hOk
  have HRUN := Lib.hid hRun
  clear hRun
  have HW0 := Lib.hid (Below.refl w.heap.size w)
  go_enter Try.func10, Try.ntmps10
  have HA0 := Lib.hid (show Below w.heap.size w w from (Below.refl _ _))
  go_wp2_with fail
  refine (dDrawSigsRun_any HCODE.out hcap hcap2).mono ?_
  rintro e w1 ⟨y00, y01, y02, D0, rfl, hr0, hs0, hb1⟩
  have HC1 := Lib.hid (HA0.out.trans (hb1.mono HA0.out.size))
  have HW1 := Lib.hid (HW0.out.trans (HC1.out.mono HW0.out.size))
  clear hb1
  obtain ⟨A00, n00, c00, A01, n01, c01, A02, n02, c02, hcs⟩ := tySigs_sh hr0
  simp only [List.cons.injEq, and_true] at hcs
  obtain ⟨rfl, rfl, rfl⟩ := hcs
  obtain ⟨H0, B0, L0⟩ := D0
  have HS0 := Lib.hid hs0
  have HR0_1 := Lib.hid (hr0)
  clear hr0 hs0
  have HA1 := Lib.hid (show Below w1.heap.size w1 (w1.alloc (.cells #[.slice A00 n00 c00, .slice A01 n01 c01, .slice A02 n02 c02] 26)) from ((Below.refl _ _).alloc (Nat.le_refl _) _))
  go_wp2_with fail
  refine (HRUN.out (Ty.below_w HR0_1.out HA1.out) HS0.out).mono ?_
  rintro e w2 ⟨a0, a1, a2, fp0, rfl, hm0, hf0, hsm0, hb2⟩
  have HC2 := Lib.hid (HA1.out.trans (hb2.mono HA1.out.size))
  have HW2 := Lib.hid (HW1.out.trans (HC2.out.mono HW1.out.size))
  have HR0_2 := Lib.hid (Ty.below_w HR0_1.out HC2.out)
  have C0_2 := Lib.hid ((Box.new w1 #[.slice A00 n00 c00, .slice A01 n01 c01, .slice A02 n02 c02] 26).below hb2 (by simp only [World.size_alloc]; omega))
  clear hb2
  have HSA := Lib.hid hsm0
  clear hsm0
  obtain ⟨E00, m00, o00, E01, m01, o01, E02, m02, o02, hcs⟩ := tySigs_shM hm0
  simp only [List.cons.injEq, and_true] at hcs
  obtain ⟨rfl, rfl, rfl⟩ := hcs
  have HQ0_2 := Lib.hid (tySigs.mr hm0 fun b hb => (hf0 b hb).2)
  clear hm0 hf0
  have HA2 := Lib.hid (show Below w2.heap.size w2 (w2.alloc (.cells #[.slice E00 m00 o00, .slice E01 m01 o01, .slice E02 m02 o02] 26)) from ((Below.refl _ _).alloc (Nat.le_refl _) _))
  have c0_c0 := C0_2.out.cell 0
  have c0_c1 := C0_2.out.cell 1
  have c0_c2 := C0_2.out.cell 2
  simp at c0_c0 c0_c1 c0_c2
  have c0_l := C0_2.out.lt
  go_wp2_with fail
  refine (sigsRun_s (Ty.below_w HR0_2.out HA2.out) HS0.out).mono ?_
  rintro e w3 ⟨b0, b1, b2, rfl, hm1, hb3⟩
  clear c0_c0 c0_c1 c0_c2 c0_l
  have HC3 := Lib.hid (HA2.out.trans (hb3.mono HA2.out.size))
  have HW3 := Lib.hid (HW2.out.trans (HC3.out.mono HW2.out.size))
  have HR0_3 := Lib.hid (Ty.below_w HR0_2.out HC3.out)
  have HQ0_3 := Lib.hid (Ty.below_w HQ0_2.out HC3.out)
  have C0_3 := Lib.hid (C0_2.out.below HC3.out C0_2.out.lt)
  have X_3 := Lib.hid ((Box.new w2 #[.slice E00 m00 o00, .slice E01 m01 o01, .slice E02 m02 o02] 26).below hb3 (by simp only [World.size_alloc]; omega))
  clear hb3
  obtain ⟨F10, m10, o10, F11, m11, o11, F12, m12, o12, hcs⟩ := tySigs_sh hm1
  simp only [List.cons.injEq, and_true] at hcs
  obtain ⟨rfl, rfl, rfl⟩ := hcs
  have HQ1_3 := Lib.hid (hm1)
  clear hm1
  have HA3 := Lib.hid (show Below w3.heap.size w3 (w3.alloc (.cells #[.slice F10 m10 o10, .slice F11 m11 o11, .slice F12 m12 o12] 26)) from ((Below.refl _ _).alloc (Nat.le_refl _) _))
  have c0_c0 := C0_3.out.cell 0
  have c0_c1 := C0_3.out.cell 1
  have c0_c2 := C0_3.out.cell 2
  have x_c0 := X_3.out.cell 0
  have x_c1 := X_3.out.cell 1
  have x_c2 := X_3.out.cell 2
  simp at c0_c0 c0_c1 c0_c2 x_c0 x_c1 x_c2
  have c0_l := C0_3.out.lt
  have x_l := X_3.out.lt
  go_wp2_with fail
  refine (qdSigs_t (Ty.below_w HQ0_3.out HA3.out) (Ty.below_w HQ1_3.out HA3.out)).mono ?_
  rintro e w4 ⟨rfl, hb4⟩
  clear c0_c0 c0_c1 c0_c2 x_c0 x_c1 x_c2 c0_l x_l
  have HC4 := Lib.hid (HA3.out.trans (hb4.mono HA3.out.size))
  have HW4 := Lib.hid (HW3.out.trans (HC4.out.mono HW3.out.size))
  have HR0_4 := Lib.hid (Ty.below_w HR0_3.out HC4.out)
  have HQ0_4 := Lib.hid (Ty.below_w HQ0_3.out HC4.out)
  have HQ1_4 := Lib.hid (Ty.below_w HQ1_3.out HC4.out)
  have C0_4 := Lib.hid (C0_3.out.below HC4.out C0_3.out.lt)
  have X_4 := Lib.hid (X_3.out.below HC4.out X_3.out.lt)
  have Y_4 := Lib.hid ((Box.new w3 #[.slice F10 m10 o10, .slice F11 m11 o11, .slice F12 m12 o12] 26).below hb4 (by simp only [World.size_alloc]; omega))
  clear hb4
  have HA4 := Lib.hid (show Below w4.heap.size w4 w4 from (Below.refl _ _))
  have c0_c0 := C0_4.out.cell 0
  have c0_c1 := C0_4.out.cell 1
  have c0_c2 := C0_4.out.cell 2
  have x_c0 := X_4.out.cell 0
  have x_c1 := X_4.out.cell 1
  have x_c2 := X_4.out.cell 2
  have y_c0 := Y_4.out.cell 0
  have y_c1 := Y_4.out.cell 1
  have y_c2 := Y_4.out.cell 2
  simp at c0_c0 c0_c1 c0_c2 x_c0 x_c1 x_c2 y_c0 y_c1 y_c2
  have c0_l := C0_4.out.lt
  have x_l := X_4.out.lt
  have y_l := Y_4.out.lt
  go_wp2_with fail
  refine (HOK.out (Ty.below_w HR0_4.out HA4.out)).mono ?_
  rintro e w5 ⟨rfl, hb5⟩
  clear c0_c0 c0_c1 c0_c2 x_c0 x_c1 x_c2 y_c0 y_c1 y_c2 c0_l x_l y_l
  have HC5 := Lib.hid (HA4.out.trans (hb5.mono HA4.out.size))
  have HW5 := Lib.hid (HW4.out.trans (HC5.out.mono HW4.out.size))
  have HR0_5 := Lib.hid (Ty.below_w HR0_4.out HC5.out)
  have HQ0_5 := Lib.hid (Ty.below_w HQ0_4.out HC5.out)
  have HQ1_5 := Lib.hid (Ty.below_w HQ1_4.out HC5.out)
  have C0_5 := Lib.hid (C0_4.out.below HC5.out C0_4.out.lt)
  have X_5 := Lib.hid (X_4.out.below HC5.out X_4.out.lt)
  have Y_5 := Lib.hid (Y_4.out.below HC5.out Y_4.out.lt)
  clear hb5
  by_cases h0 : sigB (H0, B0, L0) = true
  case neg =>
    have h0' : sigB (H0, B0, L0) = false := by simpa using h0
    rw [h0']
    clear h0
    have HA5 := Lib.hid (show Below w5.heap.size w5 w5 from (Below.refl _ _))
    have c0_c0 := C0_5.out.cell 0
    have c0_c1 := C0_5.out.cell 1
    have c0_c2 := C0_5.out.cell 2
    have x_c0 := X_5.out.cell 0
    have x_c1 := X_5.out.cell 1
    have x_c2 := X_5.out.cell 2
    have y_c0 := Y_5.out.cell 0
    have y_c1 := Y_5.out.cell 1
    have y_c2 := Y_5.out.cell 2
    simp at c0_c0 c0_c1 c0_c2 x_c0 x_c1 x_c2 y_c0 y_c1 y_c2
    have c0_l := C0_5.out.lt
    have x_l := X_5.out.lt
    have y_l := Y_5.out.lt
    go_wp2_with fail
    go_ret
    exact ⟨rfl, HW5.out⟩
  have HSG := Lib.hid (sig_iff.1 h0)
  have HOK1 := Lib.hid (run_ok h0)
  have HSO := Lib.hid (sig_iff.1 (run_ok h0))
  have HAG := Lib.hid (show runS (H0, B0, runTo L0 8) = (H0, B0, runTo L0 8) by rw [run_yes (run_ok h0), run_again (sig_iff.1 h0).2.2.1])
  have HSA := Lib.hid (show smallSigs (H0, B0, runTo L0 8) by have h := HSA.out; rw [run_yes h0] at h; exact h)
  have HQ0_5 := Lib.hid (by have h := HQ0_5.out; rw [run_yes h0] at h; exact h)
  rw [h0]
  clear h0
  obtain ⟨bx0, ax0, _, bx1, ax1, _, bx2, ax2, _, hx0, hx1, hx2, hx⟩ := read8 HQ0_5.out HSO.out.1 HSO.out.2.1 HSO.out.2.2.1
  simp only [Value.slice.injEq] at hx0 hx1 hx2
  obtain ⟨rfl, rfl, rfl⟩ := hx0
  obtain ⟨rfl, rfl, rfl⟩ := hx1
  obtain ⟨rfl, rfl, rfl⟩ := hx2
  have EX_5 := Lib.hid hx
  clear hx
  obtain ⟨bs0, as0, _, bs1, as1, _, bs2, as2, _, hx0, hx1, hx2, hx⟩ := read8 HR0_5.out HSG.out.1 HSG.out.2.1 HSG.out.2.2.1
  simp only [Value.slice.injEq] at hx0 hx1 hx2
  obtain ⟨rfl, rfl, rfl⟩ := hx0
  obtain ⟨rfl, rfl, rfl⟩ := hx1
  obtain ⟨rfl, rfl, rfl⟩ := hx2
  have E0_5 := Lib.hid hx
  clear hx
  have HA5 := Lib.hid (show Below w5.heap.size w5 w5 from (Below.refl _ _))
  have c0_c0 := C0_5.out.cell 0
  have c0_c1 := C0_5.out.cell 1
  have c0_c2 := C0_5.out.cell 2
  have x_c0 := X_5.out.cell 0
  have x_c1 := X_5.out.cell 1
  have x_c2 := X_5.out.cell 2
  have y_c0 := Y_5.out.cell 0
  have y_c1 := Y_5.out.cell 1
  have y_c2 := Y_5.out.cell 2
  simp at c0_c0 c0_c1 c0_c2 x_c0 x_c1 x_c2 y_c0 y_c1 y_c2
  have c0_l := C0_5.out.lt
  have x_l := X_5.out.lt
  have y_l := Y_5.out.lt
  go_wp2_with fail
  clear c0_c0 c0_c1 c0_c2 x_c0 x_c1 x_c2 y_c0 y_c1 y_c2 c0_l x_l y_l
  go_loopw [7] (fun i wr => ∃ k : Nat, k ≤ 8 ∧ i = .int .i64 k ∧ Below w5.heap.size w5 wr) (fun i _ => 8 - (intOf i).toNat)
  case atStart => exact ⟨0, by omega, rfl, Below.refl _ _⟩
  case round =>
    obtain ⟨k, hk, rfl, hb⟩ := hrel
    have HC20 := Lib.hid hb
    have HW20 := Lib.hid (HW5.out.trans (HC20.out.mono HW5.out.size))
    have HR0_20 := Lib.hid (Ty.below_w HR0_5.out HC20.out)
    have HQ0_20 := Lib.hid (Ty.below_w HQ0_5.out HC20.out)
    have HQ1_20 := Lib.hid (Ty.below_w HQ1_5.out HC20.out)
    have C0_20 := Lib.hid (C0_5.out.below HC20.out C0_5.out.lt)
    have X_20 := Lib.hid (X_5.out.below HC20.out X_5.out.lt)
    have Y_20 := Lib.hid (Y_5.out.below HC20.out Y_5.out.lt)
    have EX_20 := Lib.hid (EX_5.out.below HC20.out)
    have E0_20 := Lib.hid (E0_5.out.below HC20.out)
    clear hb
    by_cases hlt : k < 8
    case neg =>
      obtain rfl : k = 8 := by omega
      have c0_c0 := C0_20.out.cell 0
      have c0_c1 := C0_20.out.cell 1
      have c0_c2 := C0_20.out.cell 2
      have x_c0 := X_20.out.cell 0
      have x_c1 := X_20.out.cell 1
      have x_c2 := X_20.out.cell 2
      have y_c0 := Y_20.out.cell 0
      have y_c1 := Y_20.out.cell 1
      have y_c2 := Y_20.out.cell 2
      simp at c0_c0 c0_c1 c0_c2 x_c0 x_c1 x_c2 y_c0 y_c1 y_c2
      have c0_l := C0_20.out.lt
      have x_l := X_20.out.lt
      have y_l := Y_20.out.lt
      go_wp2_with fail
      refine wp_region_held_drew (S := fun w' => w'.cell? ⟨w2.heap.size, 0, none⟩ = some (.slice (some ⟨bx0, ax0, none⟩) 8 o00) ∧ w'.cell? ⟨w2.heap.size, 1, none⟩ = some (.slice (some ⟨bx1, ax1, none⟩) 8 o01) ∧ w'.cell? ⟨w2.heap.size, 2, none⟩ = some (.slice (some ⟨bx2, ax2, none⟩) 8 o02)) (by kernel_rfl) ⟨x_c0, x_c1, x_c2⟩ (fun hHeld => ?_)
      refine wpAnyH_take (i := 0) (v := ?vr0) rfl (by kernel_rfl) (by kernel_rfl) (by kernel_rfl) (fun _ _ _ h => h) (Or.inl ⟨by rfl, ?hyr0⟩) (by assumption) ?restr0
      case hyr0 =>
        intro w hSw
        try dsimp only at hSw
        go_simp
        try with_reducible rfl
      simp only [Act.put, List.setIfInBounds_toArray, List.set_cons_zero, List.set_cons_succ, List.getElem_toArray, List.getElem_cons_zero]
      refine wpAnyH_ready (rs := [1]) (by kernel_rfl) (by simp) ?_
      refine AllReadyH.cons rfl (fun K hK => ?_) AllReadyH.nil
      go_simp
      go_at_call 26
      refine (HOK.out (Ty.below_w HQ0_20.out (Below.refl _ _).drew)).mono ?_
      rw [HOK1.out]
      rintro e w21 ⟨rfl, hb21⟩
      have HC21 := Lib.hid (show Below wr.heap.size wr w21 from (Below.refl _ _).drew.trans (hb21.mono (Nat.le_refl _)))
      have HW21 := Lib.hid (HW20.out.trans (HC21.out.mono HW20.out.size))
      have HR0_21 := Lib.hid (Ty.below_w HR0_20.out HC21.out)
      have HQ0_21 := Lib.hid (Ty.below_w HQ0_20.out HC21.out)
      have HQ1_21 := Lib.hid (Ty.below_w HQ1_20.out HC21.out)
      have C0_21 := Lib.hid (C0_20.out.below HC21.out C0_20.out.lt)
      have X_21 := Lib.hid (X_20.out.below HC21.out X_20.out.lt)
      have Y_21 := Lib.hid (Y_20.out.below HC21.out Y_20.out.lt)
      have EX_21 := Lib.hid (EX_20.out.below HC21.out)
      have E0_21 := Lib.hid (E0_20.out.below HC21.out)
      clear hb21
      refine hK.out _ _ ?_ (fun hHeld => ?_)
      · exact ⟨X_21.out.cell 0, X_21.out.cell 1, X_21.out.cell 2⟩
      clear hK K
      try simp only [Act.put, List.setIfInBounds_toArray, List.set_cons_zero, List.set_cons_succ, List.getElem_toArray, List.getElem_cons_zero, List.getElem_cons_succ]
      refine wpAnyH_take (i := 2) (v := ?vr2) rfl (by kernel_rfl) (by kernel_rfl) (by kernel_rfl) (fun _ _ _ h => h) (Or.inl ⟨by rfl, ?hyr2⟩) (by assumption) ?restr2
      case hyr2 =>
        intro w hSw
        try dsimp only at hSw
        go_simp
        try with_reducible rfl
      simp only [Act.put, List.setIfInBounds_toArray, List.set_cons_zero, List.set_cons_succ, List.getElem_toArray, List.getElem_cons_zero, List.getElem_cons_succ]
      refine wpAnyH_take (i := 3) (v := ?vr3) rfl (by kernel_rfl) (by kernel_rfl) (by kernel_rfl) (fun _ _ _ h => h) (Or.inl ⟨by rfl, ?hyr3⟩) (by assumption) ?restr3
      case hyr3 =>
        intro w hSw
        try dsimp only at hSw
        go_simp
        try with_reducible rfl
      simp only [Act.put, List.setIfInBounds_toArray, List.set_cons_zero, List.set_cons_succ, List.getElem_toArray, List.getElem_cons_zero, List.getElem_cons_succ]
      refine wpAnyH_take (i := 5) (v := ?vr5) rfl (by kernel_rfl) (by kernel_rfl) (by kernel_rfl) (fun _ _ _ h => h) (Or.inl ⟨by rfl, ?hyr5⟩) (by assumption) ?restr5
      case hyr5 =>
        intro w hSw
        try dsimp only at hSw
        go_simp
        try with_reducible rfl
      simp only [Act.put, List.setIfInBounds_toArray, List.set_cons_zero, List.set_cons_succ, List.getElem_toArray, List.getElem_cons_zero, List.getElem_cons_succ]
      refine wpAnyH_ready (rs := [4]) (by kernel_rfl) (by simp) ?_
      refine AllReadyH.cons rfl (fun K hK => ?_) AllReadyH.nil
      go_simp
      go_at_call 46
      refine (HRUN.out HQ0_21.out HSA.out).mono ?_
      rw [HAG.out]
      rintro e w22 ⟨e0, e1, e2, fp9, rfl, hm9, hf9, _, hb22⟩
      have HC22 := Lib.hid (show Below w21.heap.size w21 w22 from hb22)
      have HW22 := Lib.hid (HW21.out.trans (HC22.out.mono HW21.out.size))
      have HR0_22 := Lib.hid (Ty.below_w HR0_21.out HC22.out)
      have HQ0_22 := Lib.hid (Ty.below_w HQ0_21.out HC22.out)
      have HQ1_22 := Lib.hid (Ty.below_w HQ1_21.out HC22.out)
      have C0_22 := Lib.hid (C0_21.out.below HC22.out C0_21.out.lt)
      have X_22 := Lib.hid (X_21.out.below HC22.out X_21.out.lt)
      have Y_22 := Lib.hid (Y_21.out.below HC22.out Y_21.out.lt)
      have EX_22 := Lib.hid (EX_21.out.below HC22.out)
      have E0_22 := Lib.hid (E0_21.out.below HC22.out)
      clear hb22
      have HQ9_22 := Lib.hid (tySigs.mr hm9 fun b hb => (hf9 b hb).2)
      obtain ⟨I90, m90, o90, I91, m91, o91, I92, m92, o92, hcs⟩ := tySigs_shM hm9
      simp only [List.cons.injEq, and_true] at hcs
      obtain ⟨rfl, rfl, rfl⟩ := hcs
      clear hm9 hf9
      refine hK.out _ _ ?_ (fun hHeld => ?_)
      · exact ⟨X_22.out.cell 0, X_22.out.cell 1, X_22.out.cell 2⟩
      clear hK K
      try simp only [Act.put, List.setIfInBounds_toArray, List.set_cons_zero, List.set_cons_succ, List.getElem_toArray, List.getElem_cons_zero, List.getElem_cons_succ]
      refine wpAnyH_ready (rs := [6]) (by kernel_rfl) (by simp) ?_
      refine AllReadyH.cons rfl (fun K hK => ?_) AllReadyH.nil
      go_simp
      go_at_call 24
      refine (qdSigs_t HQ9_22.out HQ0_22.out).mono ?_
      rintro e w23 ⟨rfl, hb23⟩
      have HC23 := Lib.hid (show Below w22.heap.size w22 w23 from hb23)
      have HW23 := Lib.hid (HW22.out.trans (HC23.out.mono HW22.out.size))
      have HR0_23 := Lib.hid (Ty.below_w HR0_22.out HC23.out)
      have HQ0_23 := Lib.hid (Ty.below_w HQ0_22.out HC23.out)
      have HQ1_23 := Lib.hid (Ty.below_w HQ1_22.out HC23.out)
      have HQ9_23 := Lib.hid (Ty.below_w HQ9_22.out HC23.out)
      have C0_23 := Lib.hid (C0_22.out.below HC23.out C0_22.out.lt)
      have X_23 := Lib.hid (X_22.out.below HC23.out X_22.out.lt)
      have Y_23 := Lib.hid (Y_22.out.below HC23.out Y_22.out.lt)
      have EX_23 := Lib.hid (EX_22.out.below HC23.out)
      have E0_23 := Lib.hid (E0_22.out.below HC23.out)
      clear hb23
      refine hK.out _ _ ?_ (fun hHeld => ?_)
      · exact ⟨X_23.out.cell 0, X_23.out.cell 1, X_23.out.cell 2⟩
      clear hK K
      try simp only [Act.put, List.setIfInBounds_toArray, List.set_cons_zero, List.set_cons_succ, List.getElem_toArray, List.getElem_cons_zero, List.getElem_cons_succ]
      refine wpAnyH_take (i := 7) (v := ?vr7) rfl (by kernel_rfl) (by kernel_rfl) (by kernel_rfl) (fun _ _ _ h => h) (Or.inl ⟨by rfl, ?hyr7⟩) (by assumption) ?restr7
      case hyr7 =>
        intro w hSw
        try dsimp only at hSw
        go_simp
        try with_reducible rfl
      simp only [Act.put, List.setIfInBounds_toArray, List.set_cons_zero, List.set_cons_succ, List.getElem_toArray, List.getElem_cons_zero, List.getElem_cons_succ]
      refine wpAnyH_take (i := 8) (v := ?vr8) rfl (by kernel_rfl) (by kernel_rfl) (by kernel_rfl) (fun _ _ _ h => h) (Or.inl ⟨by rfl, ?hyr8⟩) (by assumption) ?restr8
      case hyr8 =>
        intro w hSw
        try dsimp only at hSw
        go_simp
        try with_reducible rfl
      simp only [Act.put, List.setIfInBounds_toArray, List.set_cons_zero, List.set_cons_succ, List.getElem_toArray, List.getElem_cons_zero, List.getElem_cons_succ]
      refine wpAnyH_done (by kernel_rfl) ?_ _
      go_wp2_with fail
      go_ret
      exact ⟨rfl, HW23.out⟩
    have hk1 : (k : Int) < 8 := by omega
    have hk2 : (0 : Int) ≤ k := by omega
    have r0 := EX_20.out.c2 k hlt
    have r1 := E0_20.out.c2 k hlt
    dsimp only at r0 r1
    rw [runTo_at HSG.out.2.2.1 (Nat.le_refl 8)] at r0
    generalize L0.getD k 0 = d at r0 r1
    by_cases h4 : d = 4
    · subst h4
      rw [if_pos ⟨hlt, rfl⟩] at r0
      have c0_c0 := C0_20.out.cell 0
      have c0_c1 := C0_20.out.cell 1
      have c0_c2 := C0_20.out.cell 2
      have x_c0 := X_20.out.cell 0
      have x_c1 := X_20.out.cell 1
      have x_c2 := X_20.out.cell 2
      have y_c0 := Y_20.out.cell 0
      have y_c1 := Y_20.out.cell 1
      have y_c2 := Y_20.out.cell 2
      simp at c0_c0 c0_c1 c0_c2 x_c0 x_c1 x_c2 y_c0 y_c1 y_c2
      have c0_l := C0_20.out.lt
      have x_l := X_20.out.lt
      have y_l := Y_20.out.lt
      go_wp2_with fail
      go_quiet (fail)
      go_wp2_with fail
      go_roundw
      case rel => exact ⟨k + 1, by omega, by go_num, HC20.out.trans ((bel_drewN (Below.refl _ _) _).mono HC20.out.size)⟩
      case measure => simp [intOf]; omega
    · rw [if_neg (fun h => h4 h.2)] at r0
      have e4 : (d == 4) = false := by simpa using h4
      have e5 : ((d == 1) != (d == 1)) = false := by simp
      clear h4
      have c0_c0 := C0_20.out.cell 0
      have c0_c1 := C0_20.out.cell 1
      have c0_c2 := C0_20.out.cell 2
      have x_c0 := X_20.out.cell 0
      have x_c1 := X_20.out.cell 1
      have x_c2 := X_20.out.cell 2
      have y_c0 := Y_20.out.cell 0
      have y_c1 := Y_20.out.cell 1
      have y_c2 := Y_20.out.cell 2
      simp at c0_c0 c0_c1 c0_c2 x_c0 x_c1 x_c2 y_c0 y_c1 y_c2
      have c0_l := C0_20.out.lt
      have x_l := X_20.out.lt
      have y_l := Y_20.out.lt
      go_wp2_with fail
      go_quiet (fail)
      go_wp2_with fail
      go_roundw
      case rel => exact ⟨k + 1, by omega, by go_num, HC20.out.trans ((bel_drewN (Below.refl _ _) _).mono HC20.out.size)⟩
      case measure => simp [intOf]; omega
end
end Go.Proofs.Ytncinocpdeokgaa
