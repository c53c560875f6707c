/-
  The walk of FnSigsBlocked on drawn arguments.
-/
import Derived.Test.YtncinocpdeokgaaGD9
namespace Go.Proofs.Ytncinocpdeokgaa
open Go.RowKit

section
variable {A : Option Addr} {n c : Nat} {w : World}
theorem blocked_ne {H B : List Bool} {L : List Int} {k : Nat} (hb : B.getD k false = true) : nxtN (H, B, L) ≠ (k : Int) + 1 := by
  intro e
  cases h : nxtB (H, B, L)
  · unfold nxtB at h
    rw [e] at h
    simp at h
    omega
  · obtain ⟨_, q, _, e2, _, _, hq, _⟩ := nxt_got h
    rw [e] at e2
    obtain rfl : q = k := by omega
    rw [hb] at hq
    cases hq
theorem sig_here {H H' B : List Bool} {L : List Int} (h : sigB (H, B, L) = true) (hl : H'.length = 8) : sigB (H', B, L) = true := by
  obtain ⟨_, b, c, d⟩ := sig_iff.1 h
  exact sig_iff.2 ⟨hl, b, c, d⟩


set_option maxHeartbeats 4000000 in
set_option maxRecDepth 100000 in
theorem dSigsBlocked_walk (hSnd : GSnd 37) (hNxt : GNxt 23) (hBlk : GBlk 33) (hc : Code w A n) (hcap : n ≤ c) (hcap2 : c ≤ maxLen) : Calls Try.prog 12 #[.slice A n c] w fun e w' => e = .returned (.bool true) ∧ Below w.heap.size w w' := by
  have hn := hc.1
  unfold maxLen at hn
  by_cases hbig : (1048576 : Int) < n
  · go_enter Try.func12, Try.ntmps12
    go_wp2_with fail
    go_ret
    exact ⟨rfl, Below.refl _ _⟩
  have HCODE := Lib.hid hc
  clear hc
  have HSND := Lib.hid hSnd
  clear hSnd
  have HNXT := Lib.hid hNxt
  clear hNxt
  have HBLK := Lib.hid hBlk
  clear hBlk
  have HW0 := Lib.hid (Below.refl w.heap.size w)
  go_enter Try.func12, Try.ntmps12
  have HA0 := Lib.hid (show Below w.heap.size w w from (Below.refl _ _))
  go_wp2_with fail
  refine (dDrawSigsSend_any HCODE.out hcap hcap2).mono ?_
  rintro e w1 ⟨y00, y01, y02, D0, n', rfl, nl, nu, hr0, hs0, hb1⟩
  have HC1 := Lib.hid (HA0.out.trans (hb1.mono HA0.out.size))
  have HW1 := Lib.hid (HW0.out.trans (HC1.out.mono HW0.out.size))
  clear hb1
  obtain ⟨A00, n00, c00, A01, n01, c01, A02, n02, c02, hcs⟩ := tySigs_sh hr0
  simp only [List.cons.injEq, and_true] at hcs
  obtain ⟨rfl, rfl, rfl⟩ := hcs
  obtain ⟨H0, B0, L0⟩ := D0
  have HS0 := Lib.hid hs0
  have HR0_1 := Lib.hid (hr0)
  clear hr0 hs0
  have HA1 := Lib.hid (show Below w1.heap.size w1 (w1.alloc (.cells #[.slice A00 n00 c00, .slice A01 n01 c01, .slice A02 n02 c02] 26)) from ((Below.refl _ _).alloc (Nat.le_refl _) _))
  go_wp2_with fail
  refine (HSND.out n' (Ty.below_w HR0_1.out HA1.out) HS0.out).mono ?_
  rintro e w2 ⟨a0, a1, a2, fp0, rfl, hm0, hf0, hsm0, hb2⟩
  have HC2 := Lib.hid (HA1.out.trans (hb2.mono HA1.out.size))
  have HW2 := Lib.hid (HW1.out.trans (HC2.out.mono HW1.out.size))
  have HR0_2 := Lib.hid (Ty.below_w HR0_1.out HC2.out)
  have C0_2 := Lib.hid ((Box.new w1 #[.slice A00 n00 c00, .slice A01 n01 c01, .slice A02 n02 c02] 26).below hb2 (by simp only [World.size_alloc]; omega))
  clear hb2
  have HSA := Lib.hid hsm0
  clear hsm0
  obtain ⟨E00, m00, o00, E01, m01, o01, E02, m02, o02, hcs⟩ := tySigs_shM hm0
  simp only [List.cons.injEq, and_true] at hcs
  obtain ⟨rfl, rfl, rfl⟩ := hcs
  have HQ0_2 := Lib.hid (tySigs.mr hm0 fun b hb => (hf0 b hb).2)
  clear hm0 hf0
  have HA2 := Lib.hid (show Below w2.heap.size w2 (w2.alloc (.cells #[.slice E00 m00 o00, .slice E01 m01 o01, .slice E02 m02 o02] 26)) from ((Below.refl _ _).alloc (Nat.le_refl _) _))
  have c0_c0 := C0_2.out.cell 0
  have c0_c1 := C0_2.out.cell 1
  have c0_c2 := C0_2.out.cell 2
  simp at c0_c0 c0_c1 c0_c2
  have c0_l := C0_2.out.lt
  go_wp2_with fail
  refine (sigsSnd_s n' (Ty.below_w HR0_2.out HA2.out) HS0.out).mono ?_
  rintro e w3 ⟨b0, b1, b2, rfl, hm1, hb3⟩
  clear c0_c0 c0_c1 c0_c2 c0_l
  have HC3 := Lib.hid (HA2.out.trans (hb3.mono HA2.out.size))
  have HW3 := Lib.hid (HW2.out.trans (HC3.out.mono HW2.out.size))
  have HR0_3 := Lib.hid (Ty.below_w HR0_2.out HC3.out)
  have HQ0_3 := Lib.hid (Ty.below_w HQ0_2.out HC3.out)
  have C0_3 := Lib.hid (C0_2.out.below HC3.out C0_2.out.lt)
  have X_3 := Lib.hid ((Box.new w2 #[.slice E00 m00 o00, .slice E01 m01 o01, .slice E02 m02 o02] 26).below hb3 (by simp only [World.size_alloc]; omega))
  clear hb3
  obtain ⟨F10, m10, o10, F11, m11, o11, F12, m12, o12, hcs⟩ := tySigs_sh hm1
  simp only [List.cons.injEq, and_true] at hcs
  obtain ⟨rfl, rfl, rfl⟩ := hcs
  have HQ1_3 := Lib.hid (hm1)
  clear hm1
  have hbb : (sndB (H0, B0, L0) n' != sndB (H0, B0, L0) n') = false := by simp
  have HA3 := Lib.hid (show Below w3.heap.size w3 (w3.alloc (.cells #[.slice F10 m10 o10, .slice F11 m11 o11, .slice F12 m12 o12] 26)) from ((Below.refl _ _).alloc (Nat.le_refl _) _))
  have c0_c0 := C0_3.out.cell 0
  have c0_c1 := C0_3.out.cell 1
  have c0_c2 := C0_3.out.cell 2
  have x_c0 := X_3.out.cell 0
  have x_c1 := X_3.out.cell 1
  have x_c2 := X_3.out.cell 2
  simp at c0_c0 c0_c1 c0_c2 x_c0 x_c1 x_c2
  have c0_l := C0_3.out.lt
  have x_l := X_3.out.lt
  go_wp2_with fail
  refine (qdSigs_t (Ty.below_w HQ0_3.out HA3.out) (Ty.below_w HQ1_3.out HA3.out)).mono ?_
  rintro e w4 ⟨rfl, hb4⟩
  clear c0_c0 c0_c1 c0_c2 x_c0 x_c1 x_c2 c0_l x_l
  have HC4 := Lib.hid (HA3.out.trans (hb4.mono HA3.out.size))
  have HW4 := Lib.hid (HW3.out.trans (HC4.out.mono HW3.out.size))
  have HR0_4 := Lib.hid (Ty.below_w HR0_3.out HC4.out)
  have HQ0_4 := Lib.hid (Ty.below_w HQ0_3.out HC4.out)
  have HQ1_4 := Lib.hid (Ty.below_w HQ1_3.out HC4.out)
  have C0_4 := Lib.hid (C0_3.out.below HC4.out C0_3.out.lt)
  have X_4 := Lib.hid (X_3.out.below HC4.out X_3.out.lt)
  have Y_4 := Lib.hid ((Box.new w3 #[.slice F10 m10 o10, .slice F11 m11 o11, .slice F12 m12 o12] 26).below hb4 (by simp only [World.size_alloc]; omega))
  clear hb4
  clear hbb
  by_cases h0 : sndB (H0, B0, L0) n' = true
  case neg =>
    have h0' : sndB (H0, B0, L0) n' = false := by simpa using h0
    rw [h0']
    clear h0
    have HA4 := Lib.hid (show Below w4.heap.size w4 w4 from (Below.refl _ _))
    have c0_c0 := C0_4.out.cell 0
    have c0_c1 := C0_4.out.cell 1
    have c0_c2 := C0_4.out.cell 2
    have x_c0 := X_4.out.cell 0
    have x_c1 := X_4.out.cell 1
    have x_c2 := X_4.out.cell 2
    have y_c0 := Y_4.out.cell 0
    have y_c1 := Y_4.out.cell 1
    have y_c2 := Y_4.out.cell 2
    simp at c0_c0 c0_c1 c0_c2 x_c0 x_c1 x_c2 y_c0 y_c1 y_c2
    have c0_l := C0_4.out.lt
    have x_l := X_4.out.lt
    have y_l := Y_4.out.lt
    go_wp2_with fail
    refine (qdSigs_t (Ty.below_w HQ0_4.out HA4.out) (Ty.below_w HQ1_4.out HA4.out)).mono ?_
    rintro e w5 ⟨rfl, hb5⟩
    clear c0_c0 c0_c1 c0_c2 x_c0 x_c1 x_c2 y_c0 y_c1 y_c2 c0_l x_l y_l
    have HC5 := Lib.hid (HA4.out.trans (hb5.mono HA4.out.size))
    have HW5 := Lib.hid (HW4.out.trans (HC5.out.mono HW4.out.size))
    have HR0_5 := Lib.hid (Ty.below_w HR0_4.out HC5.out)
    have HQ0_5 := Lib.hid (Ty.below_w HQ0_4.out HC5.out)
    have HQ1_5 := Lib.hid (Ty.below_w HQ1_4.out HC5.out)
    have C0_5 := Lib.hid (C0_4.out.below HC5.out C0_4.out.lt)
    have X_5 := Lib.hid (X_4.out.below HC5.out X_4.out.lt)
    have Y_5 := Lib.hid (Y_4.out.below HC5.out Y_4.out.lt)
    clear hb5
    have HA5 := Lib.hid (show Below w5.heap.size w5 w5 from (Below.refl _ _))
    have c0_c0 := C0_5.out.cell 0
    have c0_c1 := C0_5.out.cell 1
    have c0_c2 := C0_5.out.cell 2
    have x_c0 := X_5.out.cell 0
    have x_c1 := X_5.out.cell 1
    have x_c2 := X_5.out.cell 2
    have y_c0 := Y_5.out.cell 0
    have y_c1 := Y_5.out.cell 1
    have y_c2 := Y_5.out.cell 2
    simp at c0_c0 c0_c1 c0_c2 x_c0 x_c1 x_c2 y_c0 y_c1 y_c2
    have c0_l := C0_5.out.lt
    have x_l := X_5.out.lt
    have y_l := Y_5.out.lt
    go_wp2_with fail
    go_ret
    exact ⟨rfl, HW5.out⟩
  obtain ⟨hs0, _, k, hk, hkn, hkt⟩ := snd_at h0
  have HSG := Lib.hid (sig_iff.1 hs0)
  have HSS := Lib.hid (snd_ok h0)
  have HSO := Lib.hid (sig_iff.1 (snd_ok h0))
  have HSA := Lib.hid (show smallSigs (sndH (H0, B0, L0) n', B0, L0) by have h := HSA.out; rw [snd_yes h0] at h; exact h)
  have hne := (fun (hb : B0.getD k false = true) (hd : ¬ (doesI L0 n' = 1 ∧ B0.getD k false = false)) => snd_here h0 hkt hd)
  have HHK := Lib.hid (fun (hb : B0.getD k false = true) => hne hb (fun h => by rw [hb] at h; cases h.2))
  clear hne
  have HQ0_4 := Lib.hid (by have h := HQ0_4.out; rw [snd_yes h0] at h; exact h)
  have HQ1_4 := Lib.hid (by have h := HQ1_4.out; rw [snd_yes h0] at h; exact h)
  rw [h0]
  clear h0 hs0
  generalize sndH (H0, B0, L0) n' = H1 at HSS HSO HSA HHK HQ0_4 HQ1_4
  have hk1 : IntKind.i64.wrap (n' - 1) = (k : Int) := by rw [IntWalk.i64_in _ (by omega)]; omega
  have hk3 : (0 : Int) ≤ k := by omega
  have hk4 : (k : Int) < 8 := by omega
  have HKN := Lib.hid hkn
  clear hkn hkt nl nu
  obtain ⟨bs0, as0, _, bs1, as1, _, bs2, as2, _, hx0, hx1, hx2, hx⟩ := read8 HR0_4.out HSG.out.1 HSG.out.2.1 HSG.out.2.2.1
  simp only [Value.slice.injEq] at hx0 hx1 hx2
  obtain ⟨rfl, rfl, rfl⟩ := hx0
  obtain ⟨rfl, rfl, rfl⟩ := hx1
  obtain ⟨rfl, rfl, rfl⟩ := hx2
  have E0_4 := Lib.hid hx
  clear hx
  have r1 := E0_4.out.c1 k hk
  dsimp only at r1
  have HBK := Lib.hid (fun (hb : B0.getD k false = true) => blocked_ne (H := H1) (L := L0) hb)
  generalize hbv : B0.getD k false = bb at r1 HHK HBK
  have HBV := Lib.hid hbv
  clear hbv
  cases bb
  · have HA4 := Lib.hid (show Below w4.heap.size w4 w4 from (Below.refl _ _))
    have c0_c0 := C0_4.out.cell 0
    have c0_c1 := C0_4.out.cell 1
    have c0_c2 := C0_4.out.cell 2
    have x_c0 := X_4.out.cell 0
    have x_c1 := X_4.out.cell 1
    have x_c2 := X_4.out.cell 2
    have y_c0 := Y_4.out.cell 0
    have y_c1 := Y_4.out.cell 1
    have y_c2 := Y_4.out.cell 2
    simp at c0_c0 c0_c1 c0_c2 x_c0 x_c1 x_c2 y_c0 y_c1 y_c2
    have c0_l := C0_4.out.lt
    have x_l := X_4.out.lt
    have y_l := Y_4.out.lt
    go_wp2_with fail
    refine (qdSigs_t (Ty.below_w HQ0_4.out HA4.out) (Ty.below_w HQ1_4.out HA4.out)).mono ?_
    rintro e w5 ⟨rfl, hb5⟩
    clear c0_c0 c0_c1 c0_c2 x_c0 x_c1 x_c2 y_c0 y_c1 y_c2 c0_l x_l y_l
    have HC5 := Lib.hid (HA4.out.trans (hb5.mono HA4.out.size))
    have HW5 := Lib.hid (HW4.out.trans (HC5.out.mono HW4.out.size))
    have HR0_5 := Lib.hid (Ty.below_w HR0_4.out HC5.out)
    have HQ0_5 := Lib.hid (Ty.below_w HQ0_4.out HC5.out)
    have HQ1_5 := Lib.hid (Ty.below_w HQ1_4.out HC5.out)
    have C0_5 := Lib.hid (C0_4.out.below HC5.out C0_4.out.lt)
    have X_5 := Lib.hid (X_4.out.below HC5.out X_4.out.lt)
    have Y_5 := Lib.hid (Y_4.out.below HC5.out Y_4.out.lt)
    clear hb5
    have E0_5 := Lib.hid (E0_4.out.below HC5.out)
    have HA5 := Lib.hid (show Below w5.heap.size w5 w5 from (Below.refl _ _))
    have c0_c0 := C0_5.out.cell 0
    have c0_c1 := C0_5.out.cell 1
    have c0_c2 := C0_5.out.cell 2
    have x_c0 := X_5.out.cell 0
    have x_c1 := X_5.out.cell 1
    have x_c2 := X_5.out.cell 2
    have y_c0 := Y_5.out.cell 0
    have y_c1 := Y_5.out.cell 1
    have y_c2 := Y_5.out.cell 2
    simp at c0_c0 c0_c1 c0_c2 x_c0 x_c1 x_c2 y_c0 y_c1 y_c2
    have c0_l := C0_5.out.lt
    have x_l := X_5.out.lt
    have y_l := Y_5.out.lt
    go_wp2_with fail
    go_ret
    exact ⟨rfl, HW5.out⟩
  have HKK := Lib.hid (HBK.out rfl)
  have HHK1 := Lib.hid (HHK.out rfl)
  clear HBK HHK
  have HA4 := Lib.hid (show Below w4.heap.size w4 w4 from (Below.refl _ _))
  have c0_c0 := C0_4.out.cell 0
  have c0_c1 := C0_4.out.cell 1
  have c0_c2 := C0_4.out.cell 2
  have x_c0 := X_4.out.cell 0
  have x_c1 := X_4.out.cell 1
  have x_c2 := X_4.out.cell 2
  have y_c0 := Y_4.out.cell 0
  have y_c1 := Y_4.out.cell 1
  have y_c2 := Y_4.out.cell 2
  simp at c0_c0 c0_c1 c0_c2 x_c0 x_c1 x_c2 y_c0 y_c1 y_c2
  have c0_l := C0_4.out.lt
  have x_l := X_4.out.lt
  have y_l := Y_4.out.lt
  go_wp2_with fail
  refine (HNXT.out (Ty.below_w HQ0_4.out HA4.out) HSA.out).mono ?_
  rintro e w5 ⟨e0, e1, e2, fp4, rfl, hm4, hf4, hsm4, hb5⟩
  clear c0_c0 c0_c1 c0_c2 x_c0 x_c1 x_c2 y_c0 y_c1 y_c2 c0_l x_l y_l
  have HC5 := Lib.hid (HA4.out.trans (hb5.mono HA4.out.size))
  have HW5 := Lib.hid (HW4.out.trans (HC5.out.mono HW4.out.size))
  have HR0_5 := Lib.hid (Ty.below_w HR0_4.out HC5.out)
  have HQ0_5 := Lib.hid (Ty.below_w HQ0_4.out HC5.out)
  have HQ1_5 := Lib.hid (Ty.below_w HQ1_4.out HC5.out)
  have C0_5 := Lib.hid (C0_4.out.below HC5.out C0_4.out.lt)
  have X_5 := Lib.hid (X_4.out.below HC5.out X_4.out.lt)
  have Y_5 := Lib.hid (Y_4.out.below HC5.out Y_4.out.lt)
  clear hb5
  have E0_5 := Lib.hid (E0_4.out.below HC5.out)
  clear hsm4 r1
  obtain ⟨J40, m40, o40, J41, m41, o41, J42, m42, o42, hcs⟩ := tySigs_shM hm4
  simp only [List.cons.injEq, and_true] at hcs
  obtain ⟨rfl, rfl, rfl⟩ := hcs
  have HQ4_5 := Lib.hid (tySigs.mr hm4 fun b hb => (hf4 b hb).2)
  clear hm4 hf4
  have hkk := HKK.out
  have hhk := HHK1.out
  clear HKK HHK1
  generalize nxtN (H1, B0, L0) = N at hkk ⊢
  have hN : (N != n') = true := by rw [bne_iff_ne, HKN.out]; exact hkk
  have HHN := Lib.hid hhk
  clear hkk hhk
  have mB := m8B
  have hB : blkB (H1, B0, L0) (List.replicate 8 false) = true := by unfold blkB; rw [HSS.out]; rfl
  have HBY := Lib.hid (blk_yes hB)
  have HBB := Lib.hid hB
  have HSB := Lib.hid (blk_ok hB)
  clear hB
  have HA5 := Lib.hid (show Below w5.heap.size w5 (w5.alloc (.cells #[.slice J40 m40 o40, .slice J41 m41 o41, .slice J42 m42 o42] 26)) from ((Below.refl _ _).alloc (Nat.le_refl _) _))
  have c0_c0 := C0_5.out.cell 0
  have c0_c1 := C0_5.out.cell 1
  have c0_c2 := C0_5.out.cell 2
  have x_c0 := X_5.out.cell 0
  have x_c1 := X_5.out.cell 1
  have x_c2 := X_5.out.cell 2
  have y_c0 := Y_5.out.cell 0
  have y_c1 := Y_5.out.cell 1
  have y_c2 := Y_5.out.cell 2
  simp at c0_c0 c0_c1 c0_c2 x_c0 x_c1 x_c2 y_c0 y_c1 y_c2
  have c0_l := C0_5.out.lt
  have x_l := X_5.out.lt
  have y_l := Y_5.out.lt
  go_wp2_with fail
  clear c0_c0 c0_c1 c0_c2 x_c0 x_c1 x_c2 y_c0 y_c1 y_c2 c0_l x_l y_l
  have K_9 := Lib.hid (Box.new w5 #[.slice J40 m40 o40, .slice J41 m41 o41, .slice J42 m42 o42] 26)
  have HC9 := HA5
  generalize (w5.alloc (.cells #[.slice J40 m40 o40, .slice J41 m41 o41, .slice J42 m42 o42] 26)) = w9 at HC9 K_9 ⊢
  have HR0_9 := Lib.hid (Ty.below_w HR0_5.out HC9.out)
  have HQ0_9 := Lib.hid (Ty.below_w HQ0_5.out HC9.out)
  have HQ1_9 := Lib.hid (Ty.below_w HQ1_5.out HC9.out)
  have HQ4_9 := Lib.hid (Ty.below_w HQ4_5.out HC9.out)
  have C0_9 := Lib.hid (C0_5.out.below HC9.out C0_5.out.lt)
  have X_9 := Lib.hid (X_5.out.below HC9.out X_5.out.lt)
  have Y_9 := Lib.hid (Y_5.out.below HC9.out Y_5.out.lt)
  have E0_9 := Lib.hid (E0_5.out.below HC9.out)
  have HW9 := Lib.hid (HW5.out.trans (HC9.out.mono HW5.out.size))
  have c0_c0 := C0_9.out.cell 0
  have c0_c1 := C0_9.out.cell 1
  have c0_c2 := C0_9.out.cell 2
  have x_c0 := X_9.out.cell 0
  have x_c1 := X_9.out.cell 1
  have x_c2 := X_9.out.cell 2
  have y_c0 := Y_9.out.cell 0
  have y_c1 := Y_9.out.cell 1
  have y_c2 := Y_9.out.cell 2
  have k_c0 := K_9.out.cell 0
  have k_c1 := K_9.out.cell 1
  have k_c2 := K_9.out.cell 2
  simp at c0_c0 c0_c1 c0_c2 x_c0 x_c1 x_c2 y_c0 y_c1 y_c2 k_c0 k_c1 k_c2
  have c0_l := C0_9.out.lt
  have x_l := X_9.out.lt
  have y_l := Y_9.out.lt
  have k_l := K_9.out.lt
  refine wp_region_held_drew (S := fun w' => w'.cell? ⟨w2.heap.size, 0, none⟩ = some (.slice E00 m00 o00) ∧ w'.cell? ⟨w2.heap.size, 1, none⟩ = some (.slice E01 m01 o01) ∧ w'.cell? ⟨w2.heap.size, 2, none⟩ = some (.slice E02 m02 o02)) (by kernel_rfl) ⟨x_c0, x_c1, x_c2⟩ (fun hHeld => ?_)
  have hlC0_ := C0_9.out.lt
  have hlX_ := X_9.out.lt
  have hlY_ := Y_9.out.lt
  have hlK_ := K_9.out.lt
  refine wpAnyH_take (i := 0) (v := ?vz17_0) rfl (by kernel_rfl) (by kernel_rfl) (by kernel_rfl) (fun _ _ _ h => h) (Or.inl ⟨by rfl, ?hyz17_0⟩) (by assumption) ?restz17_0
  case hyz17_0 =>
    intro w hSw
    try dsimp only at hSw
    go_simp
    try with_reducible rfl
  try simp only [Act.put, List.setIfInBounds_toArray, List.set_cons_zero, List.set_cons_succ, List.getElem_toArray, List.getElem_cons_zero]
  refine wpAnyH_ready (rs := [1, 6]) (by kernel_rfl) (by simp) ?_
  refine (AllReadyH.cons rfl (fun K hK => ?_) (AllReadyH.cons rfl (fun K hK => ?_) AllReadyH.nil))
  · go_simp
    have HT61 := Lib.hid (show Below w9.heap.size w9 ((w9.alloc (.cells (madeCells #[.bool false] 8) 4)).drew) from ((Below.refl _ _).alloc (Nat.le_refl _) (.cells (madeCells #[.bool false] 8) 4)).drew)
    have HN61 := Lib.hid (show RowM elB ((w9.alloc (.cells (madeCells #[.bool false] 8) 4)).drew) [w9.heap.size] (some ⟨w9.heap.size, 0, none⟩) 8 (List.replicate 8 false) from mkB8 w9)
    have hs61 : w9.heap.size < ((w9.alloc (.cells (madeCells #[.bool false] 8) 4)).drew).heap.size := by show w9.heap.size < (w9.alloc (.cells (madeCells #[.bool false] 8) 4)).heap.size; simp
    generalize (w9.alloc (.cells (madeCells #[.bool false] 8) 4)).drew = w61 at HT61 HN61 hs61 ⊢
    have HR0_61 := Lib.hid (Ty.below_w HR0_9.out HT61.out)
    have HQ0_61 := Lib.hid (Ty.below_w HQ0_9.out HT61.out)
    have HQ1_61 := Lib.hid (Ty.below_w HQ1_9.out HT61.out)
    have HQ4_61 := Lib.hid (Ty.below_w HQ4_9.out HT61.out)
    have C0_61 := Lib.hid (C0_9.out.below HT61.out C0_9.out.lt)
    have X_61 := Lib.hid (X_9.out.below HT61.out X_9.out.lt)
    have Y_61 := Lib.hid (Y_9.out.below HT61.out Y_9.out.lt)
    have K_61 := Lib.hid (K_9.out.below HT61.out K_9.out.lt)
    have E0_61 := Lib.hid (E0_9.out.below HT61.out)
    refine hK.out _ _ ⟨X_61.out.cell 0, X_61.out.cell 1, X_61.out.cell 2⟩ (fun hHeld => ?_)
    clear hK K
    try simp only [Act.put, List.setIfInBounds_toArray, List.set_cons_zero, List.set_cons_succ, List.getElem_toArray, List.getElem_cons_zero, List.getElem_cons_succ]
    refine wpAnyH_ready (rs := [2, 6]) (by kernel_rfl) (by simp) ?_
    refine (AllReadyH.cons rfl (fun K hK => ?_) (AllReadyH.cons rfl (fun K hK => ?_) AllReadyH.nil))
    · go_simp
      go_at_call 33
      refine (HBLK.out HQ0_61.out HSA.out (HN61.out.row (hi := w61.heap.size) fun b hb => by rw [List.mem_singleton.1 hb]; omega) rfl (by omega)).mono ?_
      rw [HBB.out, HBY.out]
      rintro e w62 ⟨e0, e1, e2, fp3, rfl, hm3, hf3, hsm3, hb62⟩
      clear hsm3
      have HT62 := Lib.hid (show Below w61.heap.size w61 w62 from hb62)
      have HF := Lib.hid hf3
      have HM62 := Lib.hid hm3
      have hsz62 := HT62.out.size
      obtain ⟨P30, m30, o30, P31, m31, o31, P32, m32, o32, hcs⟩ := tySigs_shM hm3
      simp only [List.cons.injEq, and_true] at hcs
      obtain ⟨rfl, rfl, rfl⟩ := hcs
      clear hb62 hf3 hm3
      have HR0_62 := Lib.hid (Ty.below_w HR0_61.out HT62.out)
      have HQ0_62 := Lib.hid (Ty.below_w HQ0_61.out HT62.out)
      have HQ1_62 := Lib.hid (Ty.below_w HQ1_61.out HT62.out)
      have HQ4_62 := Lib.hid (Ty.below_w HQ4_61.out HT62.out)
      have C0_62 := Lib.hid (C0_61.out.below HT62.out C0_61.out.lt)
      have X_62 := Lib.hid (X_61.out.below HT62.out X_61.out.lt)
      have Y_62 := Lib.hid (Y_61.out.below HT62.out Y_61.out.lt)
      have K_62 := Lib.hid (K_61.out.below HT62.out K_61.out.lt)
      have E0_62 := Lib.hid (E0_61.out.below HT62.out)
      refine hK.out _ _ ⟨X_62.out.cell 0, X_62.out.cell 1, X_62.out.cell 2⟩ (fun hHeld => ?_)
      clear hK K
      try simp only [Act.put, List.setIfInBounds_toArray, List.set_cons_zero, List.set_cons_succ, List.getElem_toArray, List.getElem_cons_zero, List.getElem_cons_succ]
      refine wpAnyH_take (i := 3) (v := ?vz18_3) rfl (by kernel_rfl) (by kernel_rfl) (by kernel_rfl) (fun _ _ _ h => h) (Or.inl ⟨by rfl, ?hyz18_3⟩) (by assumption) ?restz18_3
      case hyz18_3 =>
        intro w hSw
        try dsimp only at hSw
        go_simp
        try with_reducible rfl
      try simp only [Act.put, List.setIfInBounds_toArray, List.set_cons_zero, List.set_cons_succ, List.getElem_toArray, List.getElem_cons_zero, List.getElem_cons_succ]
      refine wpAnyH_take (i := 4) (v := ?vz19_4) rfl (by kernel_rfl) (by kernel_rfl) (by kernel_rfl) (fun _ _ _ h => h) (Or.inl ⟨by rfl, ?hyz19_4⟩) (by assumption) ?restz19_4
      case hyz19_4 =>
        intro w hSw
        try dsimp only at hSw
        go_simp
        try with_reducible rfl
      try simp only [Act.put, List.setIfInBounds_toArray, List.set_cons_zero, List.set_cons_succ, List.getElem_toArray, List.getElem_cons_zero, List.getElem_cons_succ]
      refine wpAnyH_take (i := 5) (v := ?vz20_5) rfl (by kernel_rfl) (by kernel_rfl) (by kernel_rfl) (fun _ _ _ h => h) (Or.inl ⟨by rfl, ?hyz20_5⟩) (by assumption) ?restz20_5
      case hyz20_5 =>
        intro w hSw
        try dsimp only at hSw
        go_simp
        try with_reducible rfl
      try simp only [Act.put, List.setIfInBounds_toArray, List.set_cons_zero, List.set_cons_succ, List.getElem_toArray, List.getElem_cons_zero, List.getElem_cons_succ]
      refine wpAnyH_ready (rs := [6]) (by kernel_rfl) (by simp) ?_
      refine (AllReadyH.cons rfl (fun K hK => ?_) AllReadyH.nil)
      go_simp
      have HT63 := Lib.hid (show Below w62.heap.size w62 ((w62.alloc (.cells #[.slice none 0 0, .slice none 0 0, .slice none 0 0] 26))) from ((Below.refl _ _).alloc (Nat.le_refl _) (.cells #[.slice none 0 0, .slice none 0 0, .slice none 0 0] 26)))
      have HN63 := Lib.hid (show Box ((w62.alloc (.cells #[.slice none 0 0, .slice none 0 0, .slice none 0 0] 26))) w62.heap.size #[.slice none 0 0, .slice none 0 0, .slice none 0 0] 26 from Box.new w62 #[.slice none 0 0, .slice none 0 0, .slice none 0 0] 26)
      have hs63 : w62.heap.size < ((w62.alloc (.cells #[.slice none 0 0, .slice none 0 0, .slice none 0 0] 26))).heap.size := by simp
      generalize (w62.alloc (.cells #[.slice none 0 0, .slice none 0 0, .slice none 0 0] 26)) = w63 at HT63 HN63 hs63 ⊢
      have HM63 := Lib.hid (HM62.out |> fun h => Ty.mb h HT63.out fun b hb => (HF.out b hb).2)
      have HR0_63 := Lib.hid (Ty.below_w HR0_62.out HT63.out)
      have HQ0_63 := Lib.hid (Ty.below_w HQ0_62.out HT63.out)
      have HQ1_63 := Lib.hid (Ty.below_w HQ1_62.out HT63.out)
      have HQ4_63 := Lib.hid (Ty.below_w HQ4_62.out HT63.out)
      have C0_63 := Lib.hid (C0_62.out.below HT63.out C0_62.out.lt)
      have X_63 := Lib.hid (X_62.out.below HT63.out X_62.out.lt)
      have Y_63 := Lib.hid (Y_62.out.below HT63.out Y_62.out.lt)
      have K_63 := Lib.hid (K_62.out.below HT63.out K_62.out.lt)
      have E0_63 := Lib.hid (E0_62.out.below HT63.out)
      refine hK.out _ _ ⟨X_63.out.cell 0, X_63.out.cell 1, X_63.out.cell 2⟩ (fun hHeld => ?_)
      clear hK K
      try simp only [Act.put, List.setIfInBounds_toArray, List.set_cons_zero, List.set_cons_succ, List.getElem_toArray, List.getElem_cons_zero, List.getElem_cons_succ]
      refine wpAnyH_ready (rs := [7]) (by kernel_rfl) (by simp) ?_
      refine (AllReadyH.cons rfl (fun K hK => ?_) AllReadyH.nil)
      have z0 := HN63.out.cell 0
      have zf0 := HN63.out.frz 0
      have z1 := HN63.out.cell 1
      have zf1 := HN63.out.frz 1
      have z2 := HN63.out.cell 2
      have zf2 := HN63.out.frz 2
      have zl := HN63.out.lt
      simp at z0 z1 z2
      go_simp
      refine hK.out _ _ ⟨(((X_63.out.other (a := ⟨w62.heap.size, 0, none⟩) (by show w2.heap.size ≠ w62.heap.size; omega) _).other (a := ⟨w62.heap.size, 1, none⟩) (by show w2.heap.size ≠ w62.heap.size; omega) _).other (a := ⟨w62.heap.size, 2, none⟩) (by show w2.heap.size ≠ w62.heap.size; omega) _).cell 0, (((X_63.out.other (a := ⟨w62.heap.size, 0, none⟩) (by show w2.heap.size ≠ w62.heap.size; omega) _).other (a := ⟨w62.heap.size, 1, none⟩) (by show w2.heap.size ≠ w62.heap.size; omega) _).other (a := ⟨w62.heap.size, 2, none⟩) (by show w2.heap.size ≠ w62.heap.size; omega) _).cell 1, (((X_63.out.other (a := ⟨w62.heap.size, 0, none⟩) (by show w2.heap.size ≠ w62.heap.size; omega) _).other (a := ⟨w62.heap.size, 1, none⟩) (by show w2.heap.size ≠ w62.heap.size; omega) _).other (a := ⟨w62.heap.size, 2, none⟩) (by show w2.heap.size ≠ w62.heap.size; omega) _).cell 2⟩ (fun hHeld => ?_)
      clear hK K z0 z1 z2 zf0 zf1 zf2 zl
      try simp only [Act.put, List.setIfInBounds_toArray, List.set_cons_zero, List.set_cons_succ, List.getElem_toArray, List.getElem_cons_zero, List.getElem_cons_succ]
      refine wpAnyH_take (i := 8) (v := ?vz21_8) rfl (by kernel_rfl) (by kernel_rfl) (by kernel_rfl) (fun _ _ _ h => h) (Or.inl ⟨by rfl, ?hyz21_8⟩) (by assumption) ?restz21_8
      case hyz21_8 =>
        intro w hSw
        try dsimp only at hSw
        go_simp
        try with_reducible rfl
      try simp only [Act.put, List.setIfInBounds_toArray, List.set_cons_zero, List.set_cons_succ, List.getElem_toArray, List.getElem_cons_zero, List.getElem_cons_succ]
      refine wpAnyH_done (by kernel_rfl) ?_ _
      clear c0_c0 c0_c1 c0_c2 x_c0 x_c1 x_c2 y_c0 y_c1 y_c2 k_c0 k_c1 k_c2 c0_l x_l y_l k_l
      have HCC := Lib.hid ((((((HT61.out.trans (HT62.out.mono HT61.out.size)).trans (HT63.out.mono (HT61.out.trans (HT62.out.mono HT61.out.size)).size))).setCell (p := ⟨w62.heap.size, 0, none⟩) (by show w9.heap.size ≤ w62.heap.size; omega) (.slice P30 m30 o30)).setCell (p := ⟨w62.heap.size, 1, none⟩) (by show w9.heap.size ≤ w62.heap.size; omega) (.slice P31 m31 o31)).setCell (p := ⟨w62.heap.size, 2, none⟩) (by show w9.heap.size ≤ w62.heap.size; omega) (.slice P32 m32 o32))
      have HMM := Lib.hid (tySigs.mframe (tySigs.mframe (tySigs.mframe HM63.out fun b hb => heap_setCell_other _ ⟨w62.heap.size, 0, none⟩ b (.slice P30 m30 o30) (by have h := HF.out b hb; show b ≠ w62.heap.size; omega)) fun b hb => heap_setCell_other _ ⟨w62.heap.size, 1, none⟩ b (.slice P31 m31 o31) (by have h := HF.out b hb; show b ≠ w62.heap.size; omega)) fun b hb => heap_setCell_other _ ⟨w62.heap.size, 2, none⟩ b (.slice P32 m32 o32) (by have h := HF.out b hb; show b ≠ w62.heap.size; omega))
      have HQ3_39 := Lib.hid (tySigs.mr (hi := ((((w63.setCell ⟨w62.heap.size, 0, none⟩ (.slice P30 m30 o30)).setCell ⟨w62.heap.size, 1, none⟩ (.slice P31 m31 o31)).setCell ⟨w62.heap.size, 2, none⟩ (.slice P32 m32 o32))).heap.size) HMM.out fun b hb => by have h := HF.out b hb; simp only [World.size_setCell]; omega)
      have Z_39 := Lib.hid (show Box (((w63.setCell ⟨w62.heap.size, 0, none⟩ (.slice P30 m30 o30)).setCell ⟨w62.heap.size, 1, none⟩ (.slice P31 m31 o31)).setCell ⟨w62.heap.size, 2, none⟩ (.slice P32 m32 o32)) w62.heap.size #[.slice P30 m30 o30, .slice P31 m31 o31, .slice P32 m32 o32] 26 by have h := ((HN63.out.set 0 (.slice P30 m30 o30)).set 1 (.slice P31 m31 o31)).set 2 (.slice P32 m32 o32); simpa using h)
      have hsz39 : ((((w63.setCell ⟨w62.heap.size, 0, none⟩ (.slice P30 m30 o30)).setCell ⟨w62.heap.size, 1, none⟩ (.slice P31 m31 o31)).setCell ⟨w62.heap.size, 2, none⟩ (.slice P32 m32 o32))).heap.size = w63.heap.size := by simp only [World.size_setCell]
      have hsz39 := Nat.le_of_eq hsz39.symm
      generalize (((w63.setCell ⟨w62.heap.size, 0, none⟩ (.slice P30 m30 o30)).setCell ⟨w62.heap.size, 1, none⟩ (.slice P31 m31 o31)).setCell ⟨w62.heap.size, 2, none⟩ (.slice P32 m32 o32)) = w39 at HCC HMM HQ3_39 Z_39 hsz39 ⊢
      have HR0_39 := Lib.hid (Ty.below_w HR0_9.out HCC.out)
      have HQ0_39 := Lib.hid (Ty.below_w HQ0_9.out HCC.out)
      have HQ1_39 := Lib.hid (Ty.below_w HQ1_9.out HCC.out)
      have HQ4_39 := Lib.hid (Ty.below_w HQ4_9.out HCC.out)
      have C0_39 := Lib.hid (C0_9.out.below HCC.out C0_9.out.lt)
      have X_39 := Lib.hid (X_9.out.below HCC.out X_9.out.lt)
      have Y_39 := Lib.hid (Y_9.out.below HCC.out Y_9.out.lt)
      have K_39 := Lib.hid (K_9.out.below HCC.out K_9.out.lt)
      have E0_39 := Lib.hid (E0_9.out.below HCC.out)
      have HW39 := Lib.hid (HW9.out.trans (HCC.out.mono HW9.out.size))
      obtain ⟨b0, o0, c0, b1, o1, c1, b2, o2, c2, hx0, hx1, hx2, hx8, m0, m1, m2⟩ := X8.ofM HMM.out (fun b hb => by have h := HF.out b hb; have h2 := HCC.out.size; have h3 := HT63.out.size; have h4 := Z_39.out.lt; have h5 := hsz39 ; omega) HSO.out.1 (by show (blkTo B0 _ 8).length = 8; rw [blkTo_len]; exact HSG.out.2.1) HSG.out.2.2.1
      simp only [Value.slice.injEq] at hx0 hx1 hx2
      obtain ⟨rfl, rfl, rfl⟩ := hx0
      obtain ⟨rfl, rfl, rfl⟩ := hx1
      obtain ⟨rfl, rfl, rfl⟩ := hx2
      have g0 := HF.out b0 m0
      have g1 := HF.out b1 m1
      have g2 := HF.out b2 m2
      have HX0 := Lib.hid hx8
      clear hx8 m0 m1 m2
      have hyn0 : b0 ≠ w62.heap.size := by omega
      have hyn1 : b1 ≠ w62.heap.size := by omega
      have hyn2 : b2 ≠ w62.heap.size := by omega
      have hylt : w62.heap.size < w39.heap.size := Z_39.out.lt
      obtain ⟨X, hX⟩ : ∃ X, X = w62.heap.size := ⟨_, rfl⟩
      have hya : w9.heap.size ≤ X := by omega
      rw [← hX] at Z_39 hyn0 hyn1 hyn2 hylt ⊢
      clear hX
      have HB2 := Lib.hid (fun j (hj : j < 8) => blk_none_at (B := B0) HSG.out.2.1 j hj)
      have HLB := Lib.hid (show (blkTo B0 (List.replicate 8 false) 8).length = 8 by rw [blkTo_len]; exact HSG.out.2.1)
      generalize blkTo B0 (List.replicate 8 false) 8 = B2 at HB2 HLB HSB HX0
      clear g0 g1 g2 HT61 HT62 HT63
      go_wp2_with fail
      go_loopw [15] (fun i wr => ∃ (j b0 o0 c0 b1 o1 c1 b2 o2 c2 : Nat) (H' : List Bool), j ≤ 8 ∧ i = .int .i64 (j : Int) ∧ H'.length = 8 ∧ H'.getD k false = true ∧ setBits H' k + j ≤ k ∧ X8 wr 0 b0 o0 b1 o1 b2 o2 (H', B2, L0) ∧ b0 ≠ X ∧ b1 ≠ X ∧ b2 ≠ X ∧ Box wr X #[.slice (some ⟨b0, o0, none⟩) 8 c0, .slice (some ⟨b1, o1, none⟩) 8 c1, .slice (some ⟨b2, o2, none⟩) 8 c2] 26 ∧ Below w9.heap.size w9 wr) (fun i _ => 8 - (intOf i).toNat)
      case atStart => exact ⟨0, b0, o0, _, b1, o1, _, b2, o2, _, H1, by omega, rfl, HSO.out.1, HHN.out, by have := setBits_le (H := H1) (n := k); omega, HX0.out, hyn0, hyn1, hyn2, Z_39.out, HCC.out⟩
      case round =>
        obtain ⟨j, b0, o0, c0, b1, o1, c1, b2, o2, c2, H', hj, rfl, hlen, hh, hsb, hx8, n0, n1, n2, hxb, hb⟩ := hrel
        have HX8 := Lib.hid hx8
        have XW := Lib.hid hxb
        have HBW := Lib.hid hb
        have hsz := hb.size
        have hxlt := hxb.lt
        have HLN := Lib.hid hlen
        have HRX := Lib.hid (hx8.R hlen HLB.out HSG.out.2.2.1 c0 c1 c2)
        have HSX := Lib.hid (show smallSigs (H', B2, L0) from sg_small hlen HLB.out HSG.out.2.2.1)
        have HTK := Lib.hid (take_one (sig_here HSB.out hlen) hk HB2.out hh)
        clear hx8 hxb hb hlen hh
        by_cases hlt : j < 8
        case neg => omega
        have hj1 : (j : Int) < 8 := by omega
        have x0 := XW.out.cell 0
        have xf0 := XW.out.frz 0
        have x1 := XW.out.cell 1
        have xf1 := XW.out.frz 1
        have x2 := XW.out.cell 2
        have xf2 := XW.out.frz 2
        have xl := XW.out.lt
        simp at x0 x1 x2
        go_wp2_with fail
        refine (HNXT.out HRX.out HSX.out).mono ?_
        rw [HTK.out.1]
        rintro e w21 ⟨y0, y1, y2, fp, rfl, hm, hf, hsm, hb2⟩
        have XW2 := Lib.hid (XW.out.below hb2 XW.out.lt)
        have HB21 := Lib.hid (HBW.out.trans (hb2.mono HBW.out.size))
        have hsz2 := hb2.size
        clear x0 x1 x2 xf0 xf1 xf2 xl
        rcases HTK.out.2 with h1 | ⟨q, hq, h1, h2, h3, h4⟩
        · obtain ⟨A90, n90, c90, A91, n91, c91, A92, n92, c92, hcs⟩ := tySigs_shM hm
          simp only [List.cons.injEq, and_true] at hcs
          obtain ⟨rfl, rfl, rfl⟩ := hcs
          rw [h1]
          clear hm hf hsm hb2 h1
          have he : ((k : Int) + 1 == n') = true := by rw [beq_iff_eq, HKN.out]
          have HWW := Lib.hid (HW9.out.trans ((HB21.out.alloc HB21.out.size (.cells #[.slice A90 n90 c90, .slice A91 n91 c91, .slice A92 n92 c92] 26)).mono HW9.out.size))
          go_wp2_with fail
          go_ret
          exact ⟨rfl, HWW.out⟩
        · rw [h1]
          rw [h2] at hm
          obtain ⟨d0, p0, q0, d1, p1, q1, d2, p2, q2, rfl, rfl, rfl, hy8, m0, m1, m2⟩ := X8.ofM hm (fun b hb => (hf b hb).2) (by show (H'.set q false).length = 8; rw [List.length_set]; exact HLN.out) HLB.out HSG.out.2.2.1
          have g0 := hf d0 m0
          have g1 := hf d1 m1
          have g2 := hf d2 m2
          have HY8 := Lib.hid hy8
          have H3 := Lib.hid h3
          have H4 := Lib.hid (show setBits (H'.set q false) k + (j + 1) ≤ k by omega)
          have he : ((q : Int) + 1 == n') = false := by rw [beq_eq_false_iff_ne, HKN.out]; omega
          clear hm hf hsm hb2 hy8 m0 m1 m2 h1 h2 h3 h4 hsb
          have x0 := XW2.out.cell 0
          have xf0 := XW2.out.frz 0
          have x1 := XW2.out.cell 1
          have xf1 := XW2.out.frz 1
          have x2 := XW2.out.cell 2
          have xf2 := XW2.out.frz 2
          have xl := XW2.out.lt
          simp at x0 x1 x2
          have ne0 : ¬ (X = w21.heap.size) := by omega
          have ne1 : ¬ (w21.heap.size = X) := by omega
          go_wp2_with fail
          go_roundw
          case rel =>
            have hx := ((HY8.out.other ⟨X, 0, none⟩ (.slice (some ⟨d0, p0, none⟩) 8 q0) (by show X ≠ d0; omega) (by show X ≠ d1; omega) (by show X ≠ d2; omega)).other ⟨X, 1, none⟩ (.slice (some ⟨d1, p1, none⟩) 8 q1) (by show X ≠ d0; omega) (by show X ≠ d1; omega) (by show X ≠ d2; omega)).other ⟨X, 2, none⟩ (.slice (some ⟨d2, p2, none⟩) 8 q2) (by show X ≠ d0; omega) (by show X ≠ d1; omega) (by show X ≠ d2; omega)
            have hbx : Box (((w21.setCell ⟨X, 0, none⟩ (.slice (some ⟨d0, p0, none⟩) 8 q0)).setCell ⟨X, 1, none⟩ (.slice (some ⟨d1, p1, none⟩) 8 q1)).setCell ⟨X, 2, none⟩ (.slice (some ⟨d2, p2, none⟩) 8 q2)) X #[.slice (some ⟨d0, p0, none⟩) 8 q0, .slice (some ⟨d1, p1, none⟩) 8 q1, .slice (some ⟨d2, p2, none⟩) 8 q2] 26 := by
              have h := ((XW2.out.set 0 (.slice (some ⟨d0, p0, none⟩) 8 q0)).set 1 (.slice (some ⟨d1, p1, none⟩) 8 q1)).set 2 (.slice (some ⟨d2, p2, none⟩) 8 q2)
              simpa using h
            exact ⟨j + 1, d0, p0, q0, d1, p1, q1, d2, p2, q2, H'.set q false, by omega, by go_num, by rw [List.length_set]; exact HLN.out, H3.out, H4.out, hx.below ((Below.refl _ _).alloc (Nat.le_refl _) _), by omega, by omega, by omega, hbx.alloc _, (((HB21.out.setCell (p := ⟨X, 0, none⟩) hya _).setCell (p := ⟨X, 1, none⟩) hya _).setCell (p := ⟨X, 2, none⟩) hya _).alloc (by simp only [World.size_setCell]; omega) _⟩
          case measure => simp [intOf]; omega
    · go_simp
      have HT65 := Lib.hid (show Below w61.heap.size w61 ((w61.alloc (.cells #[.slice none 0 0, .slice none 0 0, .slice none 0 0] 26))) from ((Below.refl _ _).alloc (Nat.le_refl _) (.cells #[.slice none 0 0, .slice none 0 0, .slice none 0 0] 26)))
      have HN65 := Lib.hid (show Box ((w61.alloc (.cells #[.slice none 0 0, .slice none 0 0, .slice none 0 0] 26))) w61.heap.size #[.slice none 0 0, .slice none 0 0, .slice none 0 0] 26 from Box.new w61 #[.slice none 0 0, .slice none 0 0, .slice none 0 0] 26)
      have hs65 : w61.heap.size < ((w61.alloc (.cells #[.slice none 0 0, .slice none 0 0, .slice none 0 0] 26))).heap.size := by simp
      generalize (w61.alloc (.cells #[.slice none 0 0, .slice none 0 0, .slice none 0 0] 26)) = w65 at HT65 HN65 hs65 ⊢
      have HMK65 := Lib.hid (HN61.out.frame fun b hb => HT65.out.block b (by rw [List.mem_singleton.1 hb]; omega))
      have HR0_65 := Lib.hid (Ty.below_w HR0_61.out HT65.out)
      have HQ0_65 := Lib.hid (Ty.below_w HQ0_61.out HT65.out)
      have HQ1_65 := Lib.hid (Ty.below_w HQ1_61.out HT65.out)
      have HQ4_65 := Lib.hid (Ty.below_w HQ4_61.out HT65.out)
      have C0_65 := Lib.hid (C0_61.out.below HT65.out C0_61.out.lt)
      have X_65 := Lib.hid (X_61.out.below HT65.out X_61.out.lt)
      have Y_65 := Lib.hid (Y_61.out.below HT65.out Y_61.out.lt)
      have K_65 := Lib.hid (K_61.out.below HT65.out K_61.out.lt)
      have E0_65 := Lib.hid (E0_61.out.below HT65.out)
      refine hK.out _ _ ⟨X_65.out.cell 0, X_65.out.cell 1, X_65.out.cell 2⟩ (fun hHeld => ?_)
      clear hK K
      try simp only [Act.put, List.setIfInBounds_toArray, List.set_cons_zero, List.set_cons_succ, List.getElem_toArray, List.getElem_cons_zero, List.getElem_cons_succ]
      refine wpAnyH_ready (rs := [2]) (by kernel_rfl) (by simp) ?_
      refine (AllReadyH.cons rfl (fun K hK => ?_) AllReadyH.nil)
      go_simp
      go_at_call 33
      refine (HBLK.out HQ0_65.out HSA.out (HMK65.out.row (hi := w65.heap.size) fun b hb => by rw [List.mem_singleton.1 hb]; omega) rfl (by omega)).mono ?_
      rw [HBB.out, HBY.out]
      rintro e w66 ⟨e0, e1, e2, fp3, rfl, hm3, hf3, hsm3, hb66⟩
      clear hsm3
      have HT66 := Lib.hid (show Below w65.heap.size w65 w66 from hb66)
      have HF := Lib.hid hf3
      have HM66 := Lib.hid hm3
      have hsz66 := HT66.out.size
      obtain ⟨P30, m30, o30, P31, m31, o31, P32, m32, o32, hcs⟩ := tySigs_shM hm3
      simp only [List.cons.injEq, and_true] at hcs
      obtain ⟨rfl, rfl, rfl⟩ := hcs
      clear hb66 hf3 hm3
      have HY66 := Lib.hid (HN65.out.below HT66.out HN65.out.lt)
      have HR0_66 := Lib.hid (Ty.below_w HR0_65.out HT66.out)
      have HQ0_66 := Lib.hid (Ty.below_w HQ0_65.out HT66.out)
      have HQ1_66 := Lib.hid (Ty.below_w HQ1_65.out HT66.out)
      have HQ4_66 := Lib.hid (Ty.below_w HQ4_65.out HT66.out)
      have C0_66 := Lib.hid (C0_65.out.below HT66.out C0_65.out.lt)
      have X_66 := Lib.hid (X_65.out.below HT66.out X_65.out.lt)
      have Y_66 := Lib.hid (Y_65.out.below HT66.out Y_65.out.lt)
      have K_66 := Lib.hid (K_65.out.below HT66.out K_65.out.lt)
      have E0_66 := Lib.hid (E0_65.out.below HT66.out)
      refine hK.out _ _ ⟨X_66.out.cell 0, X_66.out.cell 1, X_66.out.cell 2⟩ (fun hHeld => ?_)
      clear hK K
      try simp only [Act.put, List.setIfInBounds_toArray, List.set_cons_zero, List.set_cons_succ, List.getElem_toArray, List.getElem_cons_zero, List.getElem_cons_succ]
      refine wpAnyH_take (i := 3) (v := ?vz22_3) rfl (by kernel_rfl) (by kernel_rfl) (by kernel_rfl) (fun _ _ _ h => h) (Or.inl ⟨by rfl, ?hyz22_3⟩) (by assumption) ?restz22_3
      case hyz22_3 =>
        intro w hSw
        try dsimp only at hSw
        go_simp
        try with_reducible rfl
      try simp only [Act.put, List.setIfInBounds_toArray, List.set_cons_zero, List.set_cons_succ, List.getElem_toArray, List.getElem_cons_zero, List.getElem_cons_succ]
      refine wpAnyH_take (i := 4) (v := ?vz23_4) rfl (by kernel_rfl) (by kernel_rfl) (by kernel_rfl) (fun _ _ _ h => h) (Or.inl ⟨by rfl, ?hyz23_4⟩) (by assumption) ?restz23_4
      case hyz23_4 =>
        intro w hSw
        try dsimp only at hSw
        go_simp
        try with_reducible rfl
      try simp only [Act.put, List.setIfInBounds_toArray, List.set_cons_zero, List.set_cons_succ, List.getElem_toArray, List.getElem_cons_zero, List.getElem_cons_succ]
      refine wpAnyH_take (i := 5) (v := ?vz24_5) rfl (by kernel_rfl) (by kernel_rfl) (by kernel_rfl) (fun _ _ _ h => h) (Or.inl ⟨by rfl, ?hyz24_5⟩) (by assumption) ?restz24_5
      case hyz24_5 =>
        intro w hSw
        try dsimp only at hSw
        go_simp
        try with_reducible rfl
      try simp only [Act.put, List.setIfInBounds_toArray, List.set_cons_zero, List.set_cons_succ, List.getElem_toArray, List.getElem_cons_zero, List.getElem_cons_succ]
      refine wpAnyH_ready (rs := [7]) (by kernel_rfl) (by simp) ?_
      refine (AllReadyH.cons rfl (fun K hK => ?_) AllReadyH.nil)
      have z0 := HY66.out.cell 0
      have zf0 := HY66.out.frz 0
      have z1 := HY66.out.cell 1
      have zf1 := HY66.out.frz 1
      have z2 := HY66.out.cell 2
      have zf2 := HY66.out.frz 2
      have zl := HY66.out.lt
      simp at z0 z1 z2
      go_simp
      refine hK.out _ _ ⟨(((X_66.out.other (a := ⟨w61.heap.size, 0, none⟩) (by show w2.heap.size ≠ w61.heap.size; omega) _).other (a := ⟨w61.heap.size, 1, none⟩) (by show w2.heap.size ≠ w61.heap.size; omega) _).other (a := ⟨w61.heap.size, 2, none⟩) (by show w2.heap.size ≠ w61.heap.size; omega) _).cell 0, (((X_66.out.other (a := ⟨w61.heap.size, 0, none⟩) (by show w2.heap.size ≠ w61.heap.size; omega) _).other (a := ⟨w61.heap.size, 1, none⟩) (by show w2.heap.size ≠ w61.heap.size; omega) _).other (a := ⟨w61.heap.size, 2, none⟩) (by show w2.heap.size ≠ w61.heap.size; omega) _).cell 1, (((X_66.out.other (a := ⟨w61.heap.size, 0, none⟩) (by show w2.heap.size ≠ w61.heap.size; omega) _).other (a := ⟨w61.heap.size, 1, none⟩) (by show w2.heap.size ≠ w61.heap.size; omega) _).other (a := ⟨w61.heap.size, 2, none⟩) (by show w2.heap.size ≠ w61.heap.size; omega) _).cell 2⟩ (fun hHeld => ?_)
      clear hK K z0 z1 z2 zf0 zf1 zf2 zl
      try simp only [Act.put, List.setIfInBounds_toArray, List.set_cons_zero, List.set_cons_succ, List.getElem_toArray, List.getElem_cons_zero, List.getElem_cons_succ]
      refine wpAnyH_take (i := 8) (v := ?vz25_8) rfl (by kernel_rfl) (by kernel_rfl) (by kernel_rfl) (fun _ _ _ h => h) (Or.inl ⟨by rfl, ?hyz25_8⟩) (by assumption) ?restz25_8
      case hyz25_8 =>
        intro w hSw
        try dsimp only at hSw
        go_simp
        try with_reducible rfl
      try simp only [Act.put, List.setIfInBounds_toArray, List.set_cons_zero, List.set_cons_succ, List.getElem_toArray, List.getElem_cons_zero, List.getElem_cons_succ]
      refine wpAnyH_done (by kernel_rfl) ?_ _
      clear c0_c0 c0_c1 c0_c2 x_c0 x_c1 x_c2 y_c0 y_c1 y_c2 k_c0 k_c1 k_c2 c0_l x_l y_l k_l
      have HCC := Lib.hid ((((((HT61.out.trans (HT65.out.mono HT61.out.size)).trans (HT66.out.mono (HT61.out.trans (HT65.out.mono HT61.out.size)).size))).setCell (p := ⟨w61.heap.size, 0, none⟩) (by show w9.heap.size ≤ w61.heap.size; omega) (.slice P30 m30 o30)).setCell (p := ⟨w61.heap.size, 1, none⟩) (by show w9.heap.size ≤ w61.heap.size; omega) (.slice P31 m31 o31)).setCell (p := ⟨w61.heap.size, 2, none⟩) (by show w9.heap.size ≤ w61.heap.size; omega) (.slice P32 m32 o32))
      have HMM := Lib.hid (tySigs.mframe (tySigs.mframe (tySigs.mframe HM66.out fun b hb => heap_setCell_other _ ⟨w61.heap.size, 0, none⟩ b (.slice P30 m30 o30) (by have h := HF.out b hb; show b ≠ w61.heap.size; omega)) fun b hb => heap_setCell_other _ ⟨w61.heap.size, 1, none⟩ b (.slice P31 m31 o31) (by have h := HF.out b hb; show b ≠ w61.heap.size; omega)) fun b hb => heap_setCell_other _ ⟨w61.heap.size, 2, none⟩ b (.slice P32 m32 o32) (by have h := HF.out b hb; show b ≠ w61.heap.size; omega))
      have HQ3_39 := Lib.hid (tySigs.mr (hi := ((((w66.setCell ⟨w61.heap.size, 0, none⟩ (.slice P30 m30 o30)).setCell ⟨w61.heap.size, 1, none⟩ (.slice P31 m31 o31)).setCell ⟨w61.heap.size, 2, none⟩ (.slice P32 m32 o32))).heap.size) HMM.out fun b hb => by have h := HF.out b hb; simp only [World.size_setCell]; omega)
      have Z_39 := Lib.hid (show Box (((w66.setCell ⟨w61.heap.size, 0, none⟩ (.slice P30 m30 o30)).setCell ⟨w61.heap.size, 1, none⟩ (.slice P31 m31 o31)).setCell ⟨w61.heap.size, 2, none⟩ (.slice P32 m32 o32)) w61.heap.size #[.slice P30 m30 o30, .slice P31 m31 o31, .slice P32 m32 o32] 26 by have h := ((HY66.out.set 0 (.slice P30 m30 o30)).set 1 (.slice P31 m31 o31)).set 2 (.slice P32 m32 o32); simpa using h)
      have hsz39 : ((((w66.setCell ⟨w61.heap.size, 0, none⟩ (.slice P30 m30 o30)).setCell ⟨w61.heap.size, 1, none⟩ (.slice P31 m31 o31)).setCell ⟨w61.heap.size, 2, none⟩ (.slice P32 m32 o32))).heap.size = w66.heap.size := by simp only [World.size_setCell]
      have hsz39 := Nat.le_of_eq hsz39.symm
      generalize (((w66.setCell ⟨w61.heap.size, 0, none⟩ (.slice P30 m30 o30)).setCell ⟨w61.heap.size, 1, none⟩ (.slice P31 m31 o31)).setCell ⟨w61.heap.size, 2, none⟩ (.slice P32 m32 o32)) = w39 at HCC HMM HQ3_39 Z_39 hsz39 ⊢
      have HR0_39 := Lib.hid (Ty.below_w HR0_9.out HCC.out)
      have HQ0_39 := Lib.hid (Ty.below_w HQ0_9.out HCC.out)
      have HQ1_39 := Lib.hid (Ty.below_w HQ1_9.out HCC.out)
      have HQ4_39 := Lib.hid (Ty.below_w HQ4_9.out HCC.out)
      have C0_39 := Lib.hid (C0_9.out.below HCC.out C0_9.out.lt)
      have X_39 := Lib.hid (X_9.out.below HCC.out X_9.out.lt)
      have Y_39 := Lib.hid (Y_9.out.below HCC.out Y_9.out.lt)
      have K_39 := Lib.hid (K_9.out.below HCC.out K_9.out.lt)
      have E0_39 := Lib.hid (E0_9.out.below HCC.out)
      have HW39 := Lib.hid (HW9.out.trans (HCC.out.mono HW9.out.size))
      obtain ⟨b0, o0, c0, b1, o1, c1, b2, o2, c2, hx0, hx1, hx2, hx8, m0, m1, m2⟩ := X8.ofM HMM.out (fun b hb => by have h := HF.out b hb; have h2 := HCC.out.size; have h3 := HT66.out.size; have h4 := Z_39.out.lt; have h5 := hsz39 ; omega) HSO.out.1 (by show (blkTo B0 _ 8).length = 8; rw [blkTo_len]; exact HSG.out.2.1) HSG.out.2.2.1
      simp only [Value.slice.injEq] at hx0 hx1 hx2
      obtain ⟨rfl, rfl, rfl⟩ := hx0
      obtain ⟨rfl, rfl, rfl⟩ := hx1
      obtain ⟨rfl, rfl, rfl⟩ := hx2
      have g0 := HF.out b0 m0
      have g1 := HF.out b1 m1
      have g2 := HF.out b2 m2
      have HX0 := Lib.hid hx8
      clear hx8 m0 m1 m2
      have hyn0 : b0 ≠ w61.heap.size := by omega
      have hyn1 : b1 ≠ w61.heap.size := by omega
      have hyn2 : b2 ≠ w61.heap.size := by omega
      have hylt : w61.heap.size < w39.heap.size := Z_39.out.lt
      obtain ⟨X, hX⟩ : ∃ X, X = w61.heap.size := ⟨_, rfl⟩
      have hya : w9.heap.size ≤ X := by omega
      rw [← hX] at Z_39 hyn0 hyn1 hyn2 hylt ⊢
      clear hX
      have HB2 := Lib.hid (fun j (hj : j < 8) => blk_none_at (B := B0) HSG.out.2.1 j hj)
      have HLB := Lib.hid (show (blkTo B0 (List.replicate 8 false) 8).length = 8 by rw [blkTo_len]; exact HSG.out.2.1)
      generalize blkTo B0 (List.replicate 8 false) 8 = B2 at HB2 HLB HSB HX0
      clear g0 g1 g2 HT61 HT65 HT66
      go_wp2_with fail
      go_loopw [15] (fun i wr => ∃ (j b0 o0 c0 b1 o1 c1 b2 o2 c2 : Nat) (H' : List Bool), j ≤ 8 ∧ i = .int .i64 (j : Int) ∧ H'.length = 8 ∧ H'.getD k false = true ∧ setBits H' k + j ≤ k ∧ X8 wr 0 b0 o0 b1 o1 b2 o2 (H', B2, L0) ∧ b0 ≠ X ∧ b1 ≠ X ∧ b2 ≠ X ∧ Box wr X #[.slice (some ⟨b0, o0, none⟩) 8 c0, .slice (some ⟨b1, o1, none⟩) 8 c1, .slice (some ⟨b2, o2, none⟩) 8 c2] 26 ∧ Below w9.heap.size w9 wr) (fun i _ => 8 - (intOf i).toNat)
      case atStart => exact ⟨0, b0, o0, _, b1, o1, _, b2, o2, _, H1, by omega, rfl, HSO.out.1, HHN.out, by have := setBits_le (H := H1) (n := k); omega, HX0.out, hyn0, hyn1, hyn2, Z_39.out, HCC.out⟩
      case round =>
        obtain ⟨j, b0, o0, c0, b1, o1, c1, b2, o2, c2, H', hj, rfl, hlen, hh, hsb, hx8, n0, n1, n2, hxb, hb⟩ := hrel
        have HX8 := Lib.hid hx8
        have XW := Lib.hid hxb
        have HBW := Lib.hid hb
        have hsz := hb.size
        have hxlt := hxb.lt
        have HLN := Lib.hid hlen
        have HRX := Lib.hid (hx8.R hlen HLB.out HSG.out.2.2.1 c0 c1 c2)
        have HSX := Lib.hid (show smallSigs (H', B2, L0) from sg_small hlen HLB.out HSG.out.2.2.1)
        have HTK := Lib.hid (take_one (sig_here HSB.out hlen) hk HB2.out hh)
        clear hx8 hxb hb hlen hh
        by_cases hlt : j < 8
        case neg => omega
        have hj1 : (j : Int) < 8 := by omega
        have x0 := XW.out.cell 0
        have xf0 := XW.out.frz 0
        have x1 := XW.out.cell 1
        have xf1 := XW.out.frz 1
        have x2 := XW.out.cell 2
        have xf2 := XW.out.frz 2
        have xl := XW.out.lt
        simp at x0 x1 x2
        go_wp2_with fail
        refine (HNXT.out HRX.out HSX.out).mono ?_
        rw [HTK.out.1]
        rintro e w21 ⟨y0, y1, y2, fp, rfl, hm, hf, hsm, hb2⟩
        have XW2 := Lib.hid (XW.out.below hb2 XW.out.lt)
        have HB21 := Lib.hid (HBW.out.trans (hb2.mono HBW.out.size))
        have hsz2 := hb2.size
        clear x0 x1 x2 xf0 xf1 xf2 xl
        rcases HTK.out.2 with h1 | ⟨q, hq, h1, h2, h3, h4⟩
        · obtain ⟨A90, n90, c90, A91, n91, c91, A92, n92, c92, hcs⟩ := tySigs_shM hm
          simp only [List.cons.injEq, and_true] at hcs
          obtain ⟨rfl, rfl, rfl⟩ := hcs
          rw [h1]
          clear hm hf hsm hb2 h1
          have he : ((k : Int) + 1 == n') = true := by rw [beq_iff_eq, HKN.out]
          have HWW := Lib.hid (HW9.out.trans ((HB21.out.alloc HB21.out.size (.cells #[.slice A90 n90 c90, .slice A91 n91 c91, .slice A92 n92 c92] 26)).mono HW9.out.size))
          go_wp2_with fail
          go_ret
          exact ⟨rfl, HWW.out⟩
        · rw [h1]
          rw [h2] at hm
          obtain ⟨d0, p0, q0, d1, p1, q1, d2, p2, q2, rfl, rfl, rfl, hy8, m0, m1, m2⟩ := X8.ofM hm (fun b hb => (hf b hb).2) (by show (H'.set q false).length = 8; rw [List.length_set]; exact HLN.out) HLB.out HSG.out.2.2.1
          have g0 := hf d0 m0
          have g1 := hf d1 m1
          have g2 := hf d2 m2
          have HY8 := Lib.hid hy8
          have H3 := Lib.hid h3
          have H4 := Lib.hid (show setBits (H'.set q false) k + (j + 1) ≤ k by omega)
          have he : ((q : Int) + 1 == n') = false := by rw [beq_eq_false_iff_ne, HKN.out]; omega
          clear hm hf hsm hb2 hy8 m0 m1 m2 h1 h2 h3 h4 hsb
          have x0 := XW2.out.cell 0
          have xf0 := XW2.out.frz 0
          have x1 := XW2.out.cell 1
          have xf1 := XW2.out.frz 1
          have x2 := XW2.out.cell 2
          have xf2 := XW2.out.frz 2
          have xl := XW2.out.lt
          simp at x0 x1 x2
          have ne0 : ¬ (X = w21.heap.size) := by omega
          have ne1 : ¬ (w21.heap.size = X) := by omega
          go_wp2_with fail
          go_roundw
          case rel =>
            have hx := ((HY8.out.other ⟨X, 0, none⟩ (.slice (some ⟨d0, p0, none⟩) 8 q0) (by show X ≠ d0; omega) (by show X ≠ d1; omega) (by show X ≠ d2; omega)).other ⟨X, 1, none⟩ (.slice (some ⟨d1, p1, none⟩) 8 q1) (by show X ≠ d0; omega) (by show X ≠ d1; omega) (by show X ≠ d2; omega)).other ⟨X, 2, none⟩ (.slice (some ⟨d2, p2, none⟩) 8 q2) (by show X ≠ d0; omega) (by show X ≠ d1; omega) (by show X ≠ d2; omega)
            have hbx : Box (((w21.setCell ⟨X, 0, none⟩ (.slice (some ⟨d0, p0, none⟩) 8 q0)).setCell ⟨X, 1, none⟩ (.slice (some ⟨d1, p1, none⟩) 8 q1)).setCell ⟨X, 2, none⟩ (.slice (some ⟨d2, p2, none⟩) 8 q2)) X #[.slice (some ⟨d0, p0, none⟩) 8 q0, .slice (some ⟨d1, p1, none⟩) 8 q1, .slice (some ⟨d2, p2, none⟩) 8 q2] 26 := by
              have h := ((XW2.out.set 0 (.slice (some ⟨d0, p0, none⟩) 8 q0)).set 1 (.slice (some ⟨d1, p1, none⟩) 8 q1)).set 2 (.slice (some ⟨d2, p2, none⟩) 8 q2)
              simpa using h
            exact ⟨j + 1, d0, p0, q0, d1, p1, q1, d2, p2, q2, H'.set q false, by omega, by go_num, by rw [List.length_set]; exact HLN.out, H3.out, H4.out, hx.below ((Below.refl _ _).alloc (Nat.le_refl _) _), by omega, by omega, by omega, hbx.alloc _, (((HB21.out.setCell (p := ⟨X, 0, none⟩) hya _).setCell (p := ⟨X, 1, none⟩) hya _).setCell (p := ⟨X, 2, none⟩) hya _).alloc (by simp only [World.size_setCell]; omega) _⟩
          case measure => simp [intOf]; omega
  · go_simp
    have HT68 := Lib.hid (show Below w9.heap.size w9 ((w9.alloc (.cells #[.slice none 0 0, .slice none 0 0, .slice none 0 0] 26)).drew) from ((Below.refl _ _).alloc (Nat.le_refl _) (.cells #[.slice none 0 0, .slice none 0 0, .slice none 0 0] 26)).drew)
    have HN68 := Lib.hid (show Box ((w9.alloc (.cells #[.slice none 0 0, .slice none 0 0, .slice none 0 0] 26)).drew) w9.heap.size #[.slice none 0 0, .slice none 0 0, .slice none 0 0] 26 from Box.new w9 #[.slice none 0 0, .slice none 0 0, .slice none 0 0] 26)
    have hs68 : w9.heap.size < ((w9.alloc (.cells #[.slice none 0 0, .slice none 0 0, .slice none 0 0] 26)).drew).heap.size := by show w9.heap.size < (w9.alloc (.cells #[.slice none 0 0, .slice none 0 0, .slice none 0 0] 26)).heap.size; simp
    generalize (w9.alloc (.cells #[.slice none 0 0, .slice none 0 0, .slice none 0 0] 26)).drew = w68 at HT68 HN68 hs68 ⊢
    have HR0_68 := Lib.hid (Ty.below_w HR0_9.out HT68.out)
    have HQ0_68 := Lib.hid (Ty.below_w HQ0_9.out HT68.out)
    have HQ1_68 := Lib.hid (Ty.below_w HQ1_9.out HT68.out)
    have HQ4_68 := Lib.hid (Ty.below_w HQ4_9.out HT68.out)
    have C0_68 := Lib.hid (C0_9.out.below HT68.out C0_9.out.lt)
    have X_68 := Lib.hid (X_9.out.below HT68.out X_9.out.lt)
    have Y_68 := Lib.hid (Y_9.out.below HT68.out Y_9.out.lt)
    have K_68 := Lib.hid (K_9.out.below HT68.out K_9.out.lt)
    have E0_68 := Lib.hid (E0_9.out.below HT68.out)
    refine hK.out _ _ ⟨X_68.out.cell 0, X_68.out.cell 1, X_68.out.cell 2⟩ (fun hHeld => ?_)
    clear hK K
    try simp only [Act.put, List.setIfInBounds_toArray, List.set_cons_zero, List.set_cons_succ, List.getElem_toArray, List.getElem_cons_zero, List.getElem_cons_succ]
    refine wpAnyH_ready (rs := [1]) (by kernel_rfl) (by simp) ?_
    refine (AllReadyH.cons rfl (fun K hK => ?_) AllReadyH.nil)
    go_simp
    have HT69 := Lib.hid (show Below w68.heap.size w68 ((w68.alloc (.cells (madeCells #[.bool false] 8) 4))) from ((Below.refl _ _).alloc (Nat.le_refl _) (.cells (madeCells #[.bool false] 8) 4)))
    have HN69 := Lib.hid (show RowM elB ((w68.alloc (.cells (madeCells #[.bool false] 8) 4))) [w68.heap.size] (some ⟨w68.heap.size, 0, none⟩) 8 (List.replicate 8 false) from mkB8 w68)
    have hs69 : w68.heap.size < ((w68.alloc (.cells (madeCells #[.bool false] 8) 4))).heap.size := by simp
    generalize (w68.alloc (.cells (madeCells #[.bool false] 8) 4)) = w69 at HT69 HN69 hs69 ⊢
    have HY69 := Lib.hid (HN68.out.below HT69.out HN68.out.lt)
    have HR0_69 := Lib.hid (Ty.below_w HR0_68.out HT69.out)
    have HQ0_69 := Lib.hid (Ty.below_w HQ0_68.out HT69.out)
    have HQ1_69 := Lib.hid (Ty.below_w HQ1_68.out HT69.out)
    have HQ4_69 := Lib.hid (Ty.below_w HQ4_68.out HT69.out)
    have C0_69 := Lib.hid (C0_68.out.below HT69.out C0_68.out.lt)
    have X_69 := Lib.hid (X_68.out.below HT69.out X_68.out.lt)
    have Y_69 := Lib.hid (Y_68.out.below HT69.out Y_68.out.lt)
    have K_69 := Lib.hid (K_68.out.below HT69.out K_68.out.lt)
    have E0_69 := Lib.hid (E0_68.out.below HT69.out)
    refine hK.out _ _ ⟨X_69.out.cell 0, X_69.out.cell 1, X_69.out.cell 2⟩ (fun hHeld => ?_)
    clear hK K
    try simp only [Act.put, List.setIfInBounds_toArray, List.set_cons_zero, List.set_cons_succ, List.getElem_toArray, List.getElem_cons_zero, List.getElem_cons_succ]
    refine wpAnyH_ready (rs := [2]) (by kernel_rfl) (by simp) ?_
    refine (AllReadyH.cons rfl (fun K hK => ?_) AllReadyH.nil)
    go_simp
    go_at_call 33
    refine (HBLK.out HQ0_69.out HSA.out (HN69.out.row (hi := w69.heap.size) fun b hb => by rw [List.mem_singleton.1 hb]; omega) rfl (by omega)).mono ?_
    rw [HBB.out, HBY.out]
    rintro e w70 ⟨e0, e1, e2, fp3, rfl, hm3, hf3, hsm3, hb70⟩
    clear hsm3
    have HT70 := Lib.hid (show Below w69.heap.size w69 w70 from hb70)
    have HF := Lib.hid hf3
    have HM70 := Lib.hid hm3
    have hsz70 := HT70.out.size
    obtain ⟨P30, m30, o30, P31, m31, o31, P32, m32, o32, hcs⟩ := tySigs_shM hm3
    simp only [List.cons.injEq, and_true] at hcs
    obtain ⟨rfl, rfl, rfl⟩ := hcs
    clear hb70 hf3 hm3
    have HY70 := Lib.hid (HY69.out.below HT70.out HY69.out.lt)
    have HR0_70 := Lib.hid (Ty.below_w HR0_69.out HT70.out)
    have HQ0_70 := Lib.hid (Ty.below_w HQ0_69.out HT70.out)
    have HQ1_70 := Lib.hid (Ty.below_w HQ1_69.out HT70.out)
    have HQ4_70 := Lib.hid (Ty.below_w HQ4_69.out HT70.out)
    have C0_70 := Lib.hid (C0_69.out.below HT70.out C0_69.out.lt)
    have X_70 := Lib.hid (X_69.out.below HT70.out X_69.out.lt)
    have Y_70 := Lib.hid (Y_69.out.below HT70.out Y_69.out.lt)
    have K_70 := Lib.hid (K_69.out.below HT70.out K_69.out.lt)
    have E0_70 := Lib.hid (E0_69.out.below HT70.out)
    refine hK.out _ _ ⟨X_70.out.cell 0, X_70.out.cell 1, X_70.out.cell 2⟩ (fun hHeld => ?_)
    clear hK K
    try simp only [Act.put, List.setIfInBounds_toArray, List.set_cons_zero, List.set_cons_succ, List.getElem_toArray, List.getElem_cons_zero, List.getElem_cons_succ]
    refine wpAnyH_take (i := 3) (v := ?vz26_3) rfl (by kernel_rfl) (by kernel_rfl) (by kernel_rfl) (fun _ _ _ h => h) (Or.inl ⟨by rfl, ?hyz26_3⟩) (by assumption) ?restz26_3
    case hyz26_3 =>
      intro w hSw
      try dsimp only at hSw
      go_simp
      try with_reducible rfl
    try simp only [Act.put, List.setIfInBounds_toArray, List.set_cons_zero, List.set_cons_succ, List.getElem_toArray, List.getElem_cons_zero, List.getElem_cons_succ]
    refine wpAnyH_take (i := 4) (v := ?vz27_4) rfl (by kernel_rfl) (by kernel_rfl) (by kernel_rfl) (fun _ _ _ h => h) (Or.inl ⟨by rfl, ?hyz27_4⟩) (by assumption) ?restz27_4
    case hyz27_4 =>
      intro w hSw
      try dsimp only at hSw
      go_simp
      try with_reducible rfl
    try simp only [Act.put, List.setIfInBounds_toArray, List.set_cons_zero, List.set_cons_succ, List.getElem_toArray, List.getElem_cons_zero, List.getElem_cons_succ]
    refine wpAnyH_take (i := 5) (v := ?vz28_5) rfl (by kernel_rfl) (by kernel_rfl) (by kernel_rfl) (fun _ _ _ h => h) (Or.inl ⟨by rfl, ?hyz28_5⟩) (by assumption) ?restz28_5
    case hyz28_5 =>
      intro w hSw
      try dsimp only at hSw
      go_simp
      try with_reducible rfl
    try simp only [Act.put, List.setIfInBounds_toArray, List.set_cons_zero, List.set_cons_succ, List.getElem_toArray, List.getElem_cons_zero, List.getElem_cons_succ]
    refine wpAnyH_ready (rs := [7]) (by kernel_rfl) (by simp) ?_
    refine (AllReadyH.cons rfl (fun K hK => ?_) AllReadyH.nil)
    have z0 := HY70.out.cell 0
    have zf0 := HY70.out.frz 0
    have z1 := HY70.out.cell 1
    have zf1 := HY70.out.frz 1
    have z2 := HY70.out.cell 2
    have zf2 := HY70.out.frz 2
    have zl := HY70.out.lt
    simp at z0 z1 z2
    go_simp
    refine hK.out _ _ ⟨(((X_70.out.other (a := ⟨w9.heap.size, 0, none⟩) (by show w2.heap.size ≠ w9.heap.size; omega) _).other (a := ⟨w9.heap.size, 1, none⟩) (by show w2.heap.size ≠ w9.heap.size; omega) _).other (a := ⟨w9.heap.size, 2, none⟩) (by show w2.heap.size ≠ w9.heap.size; omega) _).cell 0, (((X_70.out.other (a := ⟨w9.heap.size, 0, none⟩) (by show w2.heap.size ≠ w9.heap.size; omega) _).other (a := ⟨w9.heap.size, 1, none⟩) (by show w2.heap.size ≠ w9.heap.size; omega) _).other (a := ⟨w9.heap.size, 2, none⟩) (by show w2.heap.size ≠ w9.heap.size; omega) _).cell 1, (((X_70.out.other (a := ⟨w9.heap.size, 0, none⟩) (by show w2.heap.size ≠ w9.heap.size; omega) _).other (a := ⟨w9.heap.size, 1, none⟩) (by show w2.heap.size ≠ w9.heap.size; omega) _).other (a := ⟨w9.heap.size, 2, none⟩) (by show w2.heap.size ≠ w9.heap.size; omega) _).cell 2⟩ (fun hHeld => ?_)
    clear hK K z0 z1 z2 zf0 zf1 zf2 zl
    try simp only [Act.put, List.setIfInBounds_toArray, List.set_cons_zero, List.set_cons_succ, List.getElem_toArray, List.getElem_cons_zero, List.getElem_cons_succ]
    refine wpAnyH_take (i := 8) (v := ?vz29_8) rfl (by kernel_rfl) (by kernel_rfl) (by kernel_rfl) (fun _ _ _ h => h) (Or.inl ⟨by rfl, ?hyz29_8⟩) (by assumption) ?restz29_8
    case hyz29_8 =>
      intro w hSw
      try dsimp only at hSw
      go_simp
      try with_reducible rfl
    try simp only [Act.put, List.setIfInBounds_toArray, List.set_cons_zero, List.set_cons_succ, List.getElem_toArray, List.getElem_cons_zero, List.getElem_cons_succ]
    refine wpAnyH_done (by kernel_rfl) ?_ _
    clear c0_c0 c0_c1 c0_c2 x_c0 x_c1 x_c2 y_c0 y_c1 y_c2 k_c0 k_c1 k_c2 c0_l x_l y_l k_l
    have HCC := Lib.hid ((((((HT68.out.trans (HT69.out.mono HT68.out.size)).trans (HT70.out.mono (HT68.out.trans (HT69.out.mono HT68.out.size)).size))).setCell (p := ⟨w9.heap.size, 0, none⟩) (by show w9.heap.size ≤ w9.heap.size; omega) (.slice P30 m30 o30)).setCell (p := ⟨w9.heap.size, 1, none⟩) (by show w9.heap.size ≤ w9.heap.size; omega) (.slice P31 m31 o31)).setCell (p := ⟨w9.heap.size, 2, none⟩) (by show w9.heap.size ≤ w9.heap.size; omega) (.slice P32 m32 o32))
    have HMM := Lib.hid (tySigs.mframe (tySigs.mframe (tySigs.mframe HM70.out fun b hb => heap_setCell_other _ ⟨w9.heap.size, 0, none⟩ b (.slice P30 m30 o30) (by have h := HF.out b hb; show b ≠ w9.heap.size; omega)) fun b hb => heap_setCell_other _ ⟨w9.heap.size, 1, none⟩ b (.slice P31 m31 o31) (by have h := HF.out b hb; show b ≠ w9.heap.size; omega)) fun b hb => heap_setCell_other _ ⟨w9.heap.size, 2, none⟩ b (.slice P32 m32 o32) (by have h := HF.out b hb; show b ≠ w9.heap.size; omega))
    have HQ3_39 := Lib.hid (tySigs.mr (hi := ((((w70.setCell ⟨w9.heap.size, 0, none⟩ (.slice P30 m30 o30)).setCell ⟨w9.heap.size, 1, none⟩ (.slice P31 m31 o31)).setCell ⟨w9.heap.size, 2, none⟩ (.slice P32 m32 o32))).heap.size) HMM.out fun b hb => by have h := HF.out b hb; simp only [World.size_setCell]; omega)
    have Z_39 := Lib.hid (show Box (((w70.setCell ⟨w9.heap.size, 0, none⟩ (.slice P30 m30 o30)).setCell ⟨w9.heap.size, 1, none⟩ (.slice P31 m31 o31)).setCell ⟨w9.heap.size, 2, none⟩ (.slice P32 m32 o32)) w9.heap.size #[.slice P30 m30 o30, .slice P31 m31 o31, .slice P32 m32 o32] 26 by have h := ((HY70.out.set 0 (.slice P30 m30 o30)).set 1 (.slice P31 m31 o31)).set 2 (.slice P32 m32 o32); simpa using h)
    have hsz39 : ((((w70.setCell ⟨w9.heap.size, 0, none⟩ (.slice P30 m30 o30)).setCell ⟨w9.heap.size, 1, none⟩ (.slice P31 m31 o31)).setCell ⟨w9.heap.size, 2, none⟩ (.slice P32 m32 o32))).heap.size = w70.heap.size := by simp only [World.size_setCell]
    have hsz39 := Nat.le_of_eq hsz39.symm
    generalize (((w70.setCell ⟨w9.heap.size, 0, none⟩ (.slice P30 m30 o30)).setCell ⟨w9.heap.size, 1, none⟩ (.slice P31 m31 o31)).setCell ⟨w9.heap.size, 2, none⟩ (.slice P32 m32 o32)) = w39 at HCC HMM HQ3_39 Z_39 hsz39 ⊢
    have HR0_39 := Lib.hid (Ty.below_w HR0_9.out HCC.out)
    have HQ0_39 := Lib.hid (Ty.below_w HQ0_9.out HCC.out)
    have HQ1_39 := Lib.hid (Ty.below_w HQ1_9.out HCC.out)
    have HQ4_39 := Lib.hid (Ty.below_w HQ4_9.out HCC.out)
    have C0_39 := Lib.hid (C0_9.out.below HCC.out C0_9.out.lt)
    have X_39 := Lib.hid (X_9.out.below HCC.out X_9.out.lt)
    have Y_39 := Lib.hid (Y_9.out.below HCC.out Y_9.out.lt)
    have K_39 := Lib.hid (K_9.out.below HCC.out K_9.out.lt)
    have E0_39 := Lib.hid (E0_9.out.below HCC.out)
    have HW39 := Lib.hid (HW9.out.trans (HCC.out.mono HW9.out.size))
    obtain ⟨b0, o0, c0, b1, o1, c1, b2, o2, c2, hx0, hx1, hx2, hx8, m0, m1, m2⟩ := X8.ofM HMM.out (fun b hb => by have h := HF.out b hb; have h2 := HCC.out.size; have h3 := HT70.out.size; have h4 := Z_39.out.lt; have h5 := hsz39 ; omega) HSO.out.1 (by show (blkTo B0 _ 8).length = 8; rw [blkTo_len]; exact HSG.out.2.1) HSG.out.2.2.1
    simp only [Value.slice.injEq] at hx0 hx1 hx2
    obtain ⟨rfl, rfl, rfl⟩ := hx0
    obtain ⟨rfl, rfl, rfl⟩ := hx1
    obtain ⟨rfl, rfl, rfl⟩ := hx2
    have g0 := HF.out b0 m0
    have g1 := HF.out b1 m1
    have g2 := HF.out b2 m2
    have HX0 := Lib.hid hx8
    clear hx8 m0 m1 m2
    have hyn0 : b0 ≠ w9.heap.size := by omega
    have hyn1 : b1 ≠ w9.heap.size := by omega
    have hyn2 : b2 ≠ w9.heap.size := by omega
    have hylt : w9.heap.size < w39.heap.size := Z_39.out.lt
    obtain ⟨X, hX⟩ : ∃ X, X = w9.heap.size := ⟨_, rfl⟩
    have hya : w9.heap.size ≤ X := by omega
    rw [← hX] at Z_39 hyn0 hyn1 hyn2 hylt ⊢
    clear hX
    have HB2 := Lib.hid (fun j (hj : j < 8) => blk_none_at (B := B0) HSG.out.2.1 j hj)
    have HLB := Lib.hid (show (blkTo B0 (List.replicate 8 false) 8).length = 8 by rw [blkTo_len]; exact HSG.out.2.1)
    generalize blkTo B0 (List.replicate 8 false) 8 = B2 at HB2 HLB HSB HX0
    clear g0 g1 g2 HT68 HT69 HT70
    go_wp2_with fail
    go_loopw [15] (fun i wr => ∃ (j b0 o0 c0 b1 o1 c1 b2 o2 c2 : Nat) (H' : List Bool), j ≤ 8 ∧ i = .int .i64 (j : Int) ∧ H'.length = 8 ∧ H'.getD k false = true ∧ setBits H' k + j ≤ k ∧ X8 wr 0 b0 o0 b1 o1 b2 o2 (H', B2, L0) ∧ b0 ≠ X ∧ b1 ≠ X ∧ b2 ≠ X ∧ Box wr X #[.slice (some ⟨b0, o0, none⟩) 8 c0, .slice (some ⟨b1, o1, none⟩) 8 c1, .slice (some ⟨b2, o2, none⟩) 8 c2] 26 ∧ Below w9.heap.size w9 wr) (fun i _ => 8 - (intOf i).toNat)
    case atStart => exact ⟨0, b0, o0, _, b1, o1, _, b2, o2, _, H1, by omega, rfl, HSO.out.1, HHN.out, by have := setBits_le (H := H1) (n := k); omega, HX0.out, hyn0, hyn1, hyn2, Z_39.out, HCC.out⟩
    case round =>
      obtain ⟨j, b0, o0, c0, b1, o1, c1, b2, o2, c2, H', hj, rfl, hlen, hh, hsb, hx8, n0, n1, n2, hxb, hb⟩ := hrel
      have HX8 := Lib.hid hx8
      have XW := Lib.hid hxb
      have HBW := Lib.hid hb
      have hsz := hb.size
      have hxlt := hxb.lt
      have HLN := Lib.hid hlen
      have HRX := Lib.hid (hx8.R hlen HLB.out HSG.out.2.2.1 c0 c1 c2)
      have HSX := Lib.hid (show smallSigs (H', B2, L0) from sg_small hlen HLB.out HSG.out.2.2.1)
      have HTK := Lib.hid (take_one (sig_here HSB.out hlen) hk HB2.out hh)
      clear hx8 hxb hb hlen hh
      by_cases hlt : j < 8
      case neg => omega
      have hj1 : (j : Int) < 8 := by omega
      have x0 := XW.out.cell 0
      have xf0 := XW.out.frz 0
      have x1 := XW.out.cell 1
      have xf1 := XW.out.frz 1
      have x2 := XW.out.cell 2
      have xf2 := XW.out.frz 2
      have xl := XW.out.lt
      simp at x0 x1 x2
      go_wp2_with fail
      refine (HNXT.out HRX.out HSX.out).mono ?_
      rw [HTK.out.1]
      rintro e w21 ⟨y0, y1, y2, fp, rfl, hm, hf, hsm, hb2⟩
      have XW2 := Lib.hid (XW.out.below hb2 XW.out.lt)
      have HB21 := Lib.hid (HBW.out.trans (hb2.mono HBW.out.size))
      have hsz2 := hb2.size
      clear x0 x1 x2 xf0 xf1 xf2 xl
      rcases HTK.out.2 with h1 | ⟨q, hq, h1, h2, h3, h4⟩
      · obtain ⟨A90, n90, c90, A91, n91, c91, A92, n92, c92, hcs⟩ := tySigs_shM hm
        simp only [List.cons.injEq, and_true] at hcs
        obtain ⟨rfl, rfl, rfl⟩ := hcs
        rw [h1]
        clear hm hf hsm hb2 h1
        have he : ((k : Int) + 1 == n') = true := by rw [beq_iff_eq, HKN.out]
        have HWW := Lib.hid (HW9.out.trans ((HB21.out.alloc HB21.out.size (.cells #[.slice A90 n90 c90, .slice A91 n91 c91, .slice A92 n92 c92] 26)).mono HW9.out.size))
        go_wp2_with fail
        go_ret
        exact ⟨rfl, HWW.out⟩
      · rw [h1]
        rw [h2] at hm
        obtain ⟨d0, p0, q0, d1, p1, q1, d2, p2, q2, rfl, rfl, rfl, hy8, m0, m1, m2⟩ := X8.ofM hm (fun b hb => (hf b hb).2) (by show (H'.set q false).length = 8; rw [List.length_set]; exact HLN.out) HLB.out HSG.out.2.2.1
        have g0 := hf d0 m0
        have g1 := hf d1 m1
        have g2 := hf d2 m2
        have HY8 := Lib.hid hy8
        have H3 := Lib.hid h3
        have H4 := Lib.hid (show setBits (H'.set q false) k + (j + 1) ≤ k by omega)
        have he : ((q : Int) + 1 == n') = false := by rw [beq_eq_false_iff_ne, HKN.out]; omega
        clear hm hf hsm hb2 hy8 m0 m1 m2 h1 h2 h3 h4 hsb
        have x0 := XW2.out.cell 0
        have xf0 := XW2.out.frz 0
        have x1 := XW2.out.cell 1
        have xf1 := XW2.out.frz 1
        have x2 := XW2.out.cell 2
        have xf2 := XW2.out.frz 2
        have xl := XW2.out.lt
        simp at x0 x1 x2
        have ne0 : ¬ (X = w21.heap.size) := by omega
        have ne1 : ¬ (w21.heap.size = X) := by omega
        go_wp2_with fail
        go_roundw
        case rel =>
          have hx := ((HY8.out.other ⟨X, 0, none⟩ (.slice (some ⟨d0, p0, none⟩) 8 q0) (by show X ≠ d0; omega) (by show X ≠ d1; omega) (by show X ≠ d2; omega)).other ⟨X, 1, none⟩ (.slice (some ⟨d1, p1, none⟩) 8 q1) (by show X ≠ d0; omega) (by show X ≠ d1; omega) (by show X ≠ d2; omega)).other ⟨X, 2, none⟩ (.slice (some ⟨d2, p2, none⟩) 8 q2) (by show X ≠ d0; omega) (by show X ≠ d1; omega) (by show X ≠ d2; omega)
          have hbx : Box (((w21.setCell ⟨X, 0, none⟩ (.slice (some ⟨d0, p0, none⟩) 8 q0)).setCell ⟨X, 1, none⟩ (.slice (some ⟨d1, p1, none⟩) 8 q1)).setCell ⟨X, 2, none⟩ (.slice (some ⟨d2, p2, none⟩) 8 q2)) X #[.slice (some ⟨d0, p0, none⟩) 8 q0, .slice (some ⟨d1, p1, none⟩) 8 q1, .slice (some ⟨d2, p2, none⟩) 8 q2] 26 := by
            have h := ((XW2.out.set 0 (.slice (some ⟨d0, p0, none⟩) 8 q0)).set 1 (.slice (some ⟨d1, p1, none⟩) 8 q1)).set 2 (.slice (some ⟨d2, p2, none⟩) 8 q2)
            simpa using h
          exact ⟨j + 1, d0, p0, q0, d1, p1, q1, d2, p2, q2, H'.set q false, by omega, by go_num, by rw [List.length_set]; exact HLN.out, H3.out, H4.out, hx.below ((Below.refl _ _).alloc (Nat.le_refl _) _), by omega, by omega, by omega, hbx.alloc _, (((HB21.out.setCell (p := ⟨X, 0, none⟩) hya _).setCell (p := ⟨X, 1, none⟩) hya _).setCell (p := ⟨X, 2, none⟩) hya _).alloc (by simp only [World.size_setCell]; omega) _⟩
        case measure => simp [intOf]; omega
end
end Go.Proofs.Ytncinocpdeokgaa
