/-
  The walk of FnSigsDrain on drawn arguments.
-/
import Derived.Test.YtncinocpdeokgaaGDraw3
import Derived.Test.YtncinocpdeokgaaTqSigs
import Derived.Test.YtncinocpdeokgaaGSs
namespace Go.Proofs.Ytncinocpdeokgaa
open Go.RowKit

section
variable {A : Option Addr} {n c : Nat} {w : World}
theorem X8.R {w : World} {hi b0 o0 b1 o1 b2 o2 : Nat} {D : Sg} (h : X8 w hi b0 o0 b1 o1 b2 o2 D) (l0 : D.1.length = 8) (l1 : D.2.1.length = 8) (l2 : D.2.2.length = 8) (c0 c1 c2 : Nat) :
    tySigs.R w w.heap.size [.slice (some ⟨b0, o0, none⟩) 8 c0, .slice (some ⟨b1, o1, none⟩) 8 c1, .slice (some ⟨b2, o2, none⟩) 8 c2] D := by
  have e1 : elB.K = 1 := rfl
  have e2 : elI.K = 1 := rfl
  refine tySigs_Rmk ⟨l0, by unfold maxLen; omega, fun _ => ⟨b0, o0, rfl, h.h0, h.h0, fun k hk r hr => ?_⟩⟩ ⟨l1, by unfold maxLen; omega, fun _ => ⟨b1, o1, rfl, h.h1, h.h1, fun k hk r hr => ?_⟩⟩ ⟨l2, by unfold maxLen; omega, fun _ => ⟨b2, o2, rfl, h.h2, h.h2, fun k hk r hr => ?_⟩⟩
  · obtain rfl : r = 0 := by omega
    rw [e1, Nat.mul_one, Nat.add_zero, h.c0 k hk]; rfl
  · obtain rfl : r = 0 := by omega
    rw [e1, Nat.mul_one, Nat.add_zero, h.c1 k hk]; rfl
  · obtain rfl : r = 0 := by omega
    rw [e2, Nat.mul_one, Nat.add_zero, h.c2 k hk]; rfl
theorem X8.ofM {w : World} {fp : List Nat} {x0 x1 x2 : Value} {D : Sg} (h : tySigs.M w fp [x0, x1, x2] D) (hf : ∀ b ∈ fp, b < w.heap.size) (l0 : D.1.length = 8) (l1 : D.2.1.length = 8) (l2 : D.2.2.length = 8) :
    ∃ b0 o0 c0 b1 o1 c1 b2 o2 c2, x0 = .slice (some ⟨b0, o0, none⟩) 8 c0 ∧ x1 = .slice (some ⟨b1, o1, none⟩) 8 c1 ∧ x2 = .slice (some ⟨b2, o2, none⟩) 8 c2 ∧ X8 w 0 b0 o0 b1 o1 b2 o2 D ∧ b0 ∈ fp ∧ b1 ∈ fp ∧ b2 ∈ fp := by
  obtain ⟨A0, n0, c0, A1, n1, c1, A2, n2, c2, f0, f1, f2, hcs, rfl, ⟨e0, _, r0⟩, ⟨e1, _, r1⟩, ⟨e2, _, r2⟩, _⟩ := tySigs_M h
  simp only [List.cons.injEq, and_true] at hcs
  obtain ⟨rfl, rfl, rfl⟩ := hcs
  obtain rfl := e0.symm.trans l0
  obtain rfl := e1.symm.trans l1
  obtain rfl := e2.symm.trans l2
  obtain ⟨b0, o0, rfl, rfl, h0, _, g0⟩ := r0 (by omega)
  obtain ⟨b1, o1, rfl, rfl, h1, _, g1⟩ := r1 (by omega)
  obtain ⟨b2, o2, rfl, rfl, h2, _, g2⟩ := r2 (by omega)
  have k1 : elB.K = 1 := rfl
  have k2 : elI.K = 1 := rfl
  refine ⟨b0, o0, c0, b1, o1, c1, b2, o2, c2, rfl, rfl, rfl, ⟨fun k hk => ?_, fun k hk => ?_, fun k hk => ?_, h0, h1, h2⟩, by simp, by simp, by simp⟩
  · have := g0 k hk 0 (by omega); rw [k1, Nat.mul_one, Nat.add_zero] at this; exact this
  · have := g1 k hk 0 (by omega); rw [k1, Nat.mul_one, Nat.add_zero] at this; exact this
  · have := g2 k hk 0 (by omega); rw [k2, Nat.mul_one, Nat.add_zero] at this; exact this
theorem X8.other {w : World} {hi b0 o0 b1 o1 b2 o2 : Nat} {D : Sg} (h : X8 w hi b0 o0 b1 o1 b2 o2 D) (a : Addr) (v : Value) (n0 : a.block ≠ b0) (n1 : a.block ≠ b1) (n2 : a.block ≠ b2) : X8 (w.setCell a v) hi b0 o0 b1 o1 b2 o2 D :=
  ⟨fun k hk => (World.cell?_setCell_other _ _ _ _ (fun e => n0 (by rw [e]))).trans (h.c0 k hk), fun k hk => (World.cell?_setCell_other _ _ _ _ (fun e => n1 (by rw [e]))).trans (h.c1 k hk), fun k hk => (World.cell?_setCell_other _ _ _ _ (fun e => n2 (by rw [e]))).trans (h.c2 k hk), by rw [World.size_setCell]; exact h.h0, by rw [World.size_setCell]; exact h.h1, by rw [World.size_setCell]; exact h.h2⟩


set_option maxHeartbeats 4000000 in
set_option maxRecDepth 100000 in
theorem dSigsDrain_walk (hOk : GOk 26) (hNxt : GNxt 23) (hc : Code w A n) (hcap : n ≤ c) (hcap2 : c ≤ maxLen) : Calls Try.prog 11 #[.slice A n c] w fun e w' => e = .returned (.bool true) ∧ Below w.heap.size w w' := by
  have hn := hc.1
  unfold maxLen at hn
  by_cases hbig : (1048576 : Int) < n
  · go_enter Try.func11, Try.ntmps11
    go_wp2_with fail
    go_ret
    exact ⟨rfl, Below.refl _ _⟩
  have HCODE := Lib.hid hc
  clear hc
  have HOK := Lib.hid hOk
  clear hOk
  have HNXT := Lib.hid hNxt
  clear hNxt
  have HW0 := Lib.hid (Below.refl w.heap.size w)
  go_enter Try.func11, Try.ntmps11
  have HA0 := Lib.hid (show Below w.heap.size w w from (Below.refl _ _))
  go_wp2_with fail
  refine (dDrawSigsNext_any HCODE.out hcap hcap2).mono ?_
  rintro e w1 ⟨y00, y01, y02, D0, rfl, hr0, hs0, hb1⟩
  have HC1 := Lib.hid (HA0.out.trans (hb1.mono HA0.out.size))
  have HW1 := Lib.hid (HW0.out.trans (HC1.out.mono HW0.out.size))
  clear hb1
  obtain ⟨A00, n00, c00, A01, n01, c01, A02, n02, c02, hcs⟩ := tySigs_sh hr0
  simp only [List.cons.injEq, and_true] at hcs
  obtain ⟨rfl, rfl, rfl⟩ := hcs
  obtain ⟨H0, B0, L0⟩ := D0
  have HS0 := Lib.hid hs0
  have HR0_1 := Lib.hid (hr0)
  clear hr0 hs0
  have HA1 := Lib.hid (show Below w1.heap.size w1 (w1.alloc (.cells #[.slice A00 n00 c00, .slice A01 n01 c01, .slice A02 n02 c02] 26)) from ((Below.refl _ _).alloc (Nat.le_refl _) _))
  go_wp2_with fail
  refine (HOK.out (Ty.below_w HR0_1.out HA1.out)).mono ?_
  rintro e w2 ⟨rfl, hb2⟩
  have HC2 := Lib.hid (HA1.out.trans (hb2.mono HA1.out.size))
  have HW2 := Lib.hid (HW1.out.trans (HC2.out.mono HW1.out.size))
  have HR0_2 := Lib.hid (Ty.below_w HR0_1.out HC2.out)
  have C0_2 := Lib.hid ((Box.new w1 #[.slice A00 n00 c00, .slice A01 n01 c01, .slice A02 n02 c02] 26).below hb2 (by simp only [World.size_alloc]; omega))
  clear hb2
  have hbb : (sigB (H0, B0, L0) != sigB (H0, B0, L0)) = false := by simp
  have HA2 := Lib.hid (show Below w2.heap.size w2 w2 from (Below.refl _ _))
  have c0_c0 := C0_2.out.cell 0
  have c0_c1 := C0_2.out.cell 1
  have c0_c2 := C0_2.out.cell 2
  simp at c0_c0 c0_c1 c0_c2
  have c0_l := C0_2.out.lt
  go_wp2_with fail
  refine (sigsOk_any (Ty.below_w HR0_2.out HA2.out)).mono ?_
  rintro e w3 ⟨rfl, hb3⟩
  clear c0_c0 c0_c1 c0_c2 c0_l
  have HC3 := Lib.hid (HA2.out.trans (hb3.mono HA2.out.size))
  have HW3 := Lib.hid (HW2.out.trans (HC3.out.mono HW2.out.size))
  have HR0_3 := Lib.hid (Ty.below_w HR0_2.out HC3.out)
  have C0_3 := Lib.hid (C0_2.out.below HC3.out C0_2.out.lt)
  clear hb3
  clear hbb
  by_cases h0 : sigB (H0, B0, L0) = true
  case neg =>
    have h0' : sigB (H0, B0, L0) = false := by simpa using h0
    rw [h0']
    clear h0
    have HA3 := Lib.hid (show Below w3.heap.size w3 w3 from (Below.refl _ _))
    have c0_c0 := C0_3.out.cell 0
    have c0_c1 := C0_3.out.cell 1
    have c0_c2 := C0_3.out.cell 2
    simp at c0_c0 c0_c1 c0_c2
    have c0_l := C0_3.out.lt
    go_wp2_with fail
    refine (sigsOk_any (Ty.below_w HR0_3.out HA3.out)).mono ?_
    rintro e w4 ⟨rfl, hb4⟩
    clear c0_c0 c0_c1 c0_c2 c0_l
    have HC4 := Lib.hid (HA3.out.trans (hb4.mono HA3.out.size))
    have HW4 := Lib.hid (HW3.out.trans (HC4.out.mono HW3.out.size))
    have HR0_4 := Lib.hid (Ty.below_w HR0_3.out HC4.out)
    have C0_4 := Lib.hid (C0_3.out.below HC4.out C0_3.out.lt)
    clear hb4
    rw [h0']
    have HA4 := Lib.hid (show Below w4.heap.size w4 w4 from (Below.refl _ _))
    have c0_c0 := C0_4.out.cell 0
    have c0_c1 := C0_4.out.cell 1
    have c0_c2 := C0_4.out.cell 2
    simp at c0_c0 c0_c1 c0_c2
    have c0_l := C0_4.out.lt
    go_wp2_with fail
    go_ret
    exact ⟨rfl, HW4.out⟩
  have HSG := Lib.hid (sig_iff.1 h0)
  have HSI := Lib.hid h0
  rw [h0]
  clear h0
  obtain ⟨bs0, as0, _, bs1, as1, _, bs2, as2, _, hx0, hx1, hx2, hx⟩ := read8 HR0_3.out HSG.out.1 HSG.out.2.1 HSG.out.2.2.1
  simp only [Value.slice.injEq] at hx0 hx1 hx2
  obtain ⟨rfl, rfl, rfl⟩ := hx0
  obtain ⟨rfl, rfl, rfl⟩ := hx1
  obtain ⟨rfl, rfl, rfl⟩ := hx2
  have E0_3 := Lib.hid hx
  clear hx
  have XB := Lib.hid (Box.new w3 #[.slice (some ⟨bs0, as0, none⟩) 8 c00, .slice (some ⟨bs1, as1, none⟩) 8 c01, .slice (some ⟨bs2, as2, none⟩) 8 c02] 26)
  have HXA := Lib.hid (show Below w3.heap.size w3 (w3.alloc (.cells #[.slice (some ⟨bs0, as0, none⟩) 8 c00, .slice (some ⟨bs1, as1, none⟩) 8 c01, .slice (some ⟨bs2, as2, none⟩) 8 c02] 26)) from (Below.refl _ _).alloc (Nat.le_refl _) _)
  have hbs0 := E0_3.out.h0
  have hbs1 := E0_3.out.h1
  have hbs2 := E0_3.out.h2
  have c0_c0 := C0_3.out.cell 0
  have c0_c1 := C0_3.out.cell 1
  have c0_c2 := C0_3.out.cell 2
  simp at c0_c0 c0_c1 c0_c2
  have c0_l := C0_3.out.lt
  go_wp2_with fail
  clear c0_c0 c0_c1 c0_c2 c0_l
  go_loopw [6] (fun i wr => ∃ (k b0 o0 c0 b1 o1 c1 b2 o2 c2 : Nat), k ≤ 8 ∧ i = .int .i64 ((k : Int) + 1) ∧ X8 wr 0 b0 o0 b1 o1 b2 o2 (drn H0 B0 k, B0, L0) ∧ b0 ≠ w3.heap.size ∧ b1 ≠ w3.heap.size ∧ b2 ≠ w3.heap.size ∧ Box wr w3.heap.size #[.slice (some ⟨b0, o0, none⟩) 8 c0, .slice (some ⟨b1, o1, none⟩) 8 c1, .slice (some ⟨b2, o2, none⟩) 8 c2] 26 ∧ Below w3.heap.size w3 wr) (fun i _ => 10 - (intOf i).toNat)
  case atStart =>
    have h8 := E0_3.out.below HXA.out
    exact ⟨0, bs0, as0, c00, bs1, as1, c01, bs2, as2, c02, by omega, rfl, ⟨h8.c0, h8.c1, h8.c2, h8.h0, h8.h1, h8.h2⟩, by omega, by omega, by omega, XB.out, HXA.out⟩
  case round =>
    obtain ⟨k, b0, o0, c0, b1, o1, c1, b2, o2, c2, hk, rfl, hx8, n0, n1, n2, hxb, hb⟩ := hrel
    have HX8 := Lib.hid hx8
    have XW := Lib.hid hxb
    have HBW := Lib.hid hb
    have C0W := Lib.hid (C0_3.out.below HBW.out C0_3.out.lt)
    have hsz := hb.size
    have hxlt := hxb.lt
    have hbx0 := hx8.h0
    have hbx1 := hx8.h1
    have hbx2 := hx8.h2
    have HRX := Lib.hid (hx8.R (by show (drn H0 B0 k).length = 8; rw [drn_len]; exact HSG.out.1) HSG.out.2.1 HSG.out.2.2.1 c0 c1 c2)
    have HSX := Lib.hid (show smallSigs (drn H0 B0 k, B0, L0) from sg_small (by rw [drn_len]; exact HSG.out.1) HSG.out.2.1 HSG.out.2.2.1)
    clear hx8 hxb hb
    by_cases hlt : k < 8
    case neg =>
      obtain rfl : k = 8 := by omega
      have x0 := XW.out.cell 0
      have xf0 := XW.out.frz 0
      have x1 := XW.out.cell 1
      have xf1 := XW.out.frz 1
      have x2 := XW.out.cell 2
      have xf2 := XW.out.frz 2
      have xl := XW.out.lt
      simp at x0 x1 x2
      go_wp2_with fail
      refine (HNXT.out HRX.out HSX.out).mono ?_
      rintro e w21 ⟨y0, y1, y2, fp, rfl, hm, hf, hsm, hb2⟩
      rw [drn_end HSI.out]
      obtain ⟨A90, n90, c90, A91, n91, c91, A92, n92, c92, hcs⟩ := tySigs_shM hm
      simp only [List.cons.injEq, and_true] at hcs
      obtain ⟨rfl, rfl, rfl⟩ := hcs
      have HB21 := Lib.hid (HBW.out.trans (hb2.mono HBW.out.size))
      clear hm hf hsm hb2 x0 x1 x2 xf0 xf1 xf2 xl
      have HWW := Lib.hid (HW3.out.trans ((HB21.out.alloc HB21.out.size (.cells #[.slice A90 n90 c90, .slice A91 n91 c91, .slice A92 n92 c92] 26)).mono HW3.out.size))
      go_wp2_with fail
      go_ret
      exact ⟨rfl, HWW.out⟩
    have hk1 : IntKind.i64.wrap ((k : Int) + 1 - 1) = (k : Int) := by rw [IntWalk.i64_in _ (by omega)]; omega
    have hk2 : (k : Int) + 1 ≤ 8 := by omega
    have hk3 : (0 : Int) ≤ k := by omega
    have hk4 : (k : Int) < 8 := by omega
    have E0W := Lib.hid (E0_3.out.below HBW.out)
    have r0 := E0W.out.c0 k hlt
    have r1 := E0W.out.c1 k hlt
    dsimp only at r0 r1
    have HDN := Lib.hid (drn_next (n := k) HSI.out hlt)
    have HDR := Lib.hid (show drn H0 B0 (k + 1) = if H0.getD k false = true ∧ B0.getD k false = false then (drn H0 B0 k).set k false else drn H0 B0 k from rfl)
    generalize H0.getD k false = a at r0 HDN HDR
    generalize B0.getD k false = bb at r1 HDN HDR
    have c0c0 := C0W.out.cell 0
    have c0c1 := C0W.out.cell 1
    have c0c2 := C0W.out.cell 2
    simp at c0c0 c0c1 c0c2
    cases a
    · have HE := Lib.hid (show drn H0 B0 (k + 1) = drn H0 B0 k from HDR.out.trans (if_neg (fun h => by cases h.1)))
      go_wp2_with fail
      go_roundw
      case rel => exact ⟨k + 1, b0, o0, c0, b1, o1, c1, b2, o2, c2, by omega, by go_num, by rw [HE.out]; exact HX8.out, n0, n1, n2, XW.out, HBW.out⟩
      case measure => simp [intOf]; omega
    cases bb
    case true =>
      have HE := Lib.hid (show drn H0 B0 (k + 1) = drn H0 B0 k from HDR.out.trans (if_neg (fun h => by cases h.2)))
      go_wp2_with fail
      go_roundw
      case rel => exact ⟨k + 1, b0, o0, c0, b1, o1, c1, b2, o2, c2, by omega, by go_num, by rw [HE.out]; exact HX8.out, n0, n1, n2, XW.out, HBW.out⟩
      case measure => simp [intOf]; omega
    have HDK := Lib.hid (HDN.out rfl rfl)
    have x0 := XW.out.cell 0
    have xf0 := XW.out.frz 0
    have x1 := XW.out.cell 1
    have xf1 := XW.out.frz 1
    have x2 := XW.out.cell 2
    have xf2 := XW.out.frz 2
    have xl := XW.out.lt
    simp at x0 x1 x2
    have hq1 : ((k : Int) + 1 != (k : Int) + 1) = false := by simp
    go_wp2_with fail
    refine (HNXT.out HRX.out HSX.out).mono ?_
    rw [HDK.out.1, HDK.out.2.1, HDK.out.2.2]
    rintro e w21 ⟨y0, y1, y2, fp, rfl, hm, hf, hsm, hb2⟩
    obtain ⟨d0, p0, q0, d1, p1, q1, d2, p2, q2, rfl, rfl, rfl, hy8, m0, m1, m2⟩ := X8.ofM hm (fun b hb => (hf b hb).2) (by show (drn H0 B0 (k + 1)).length = 8; rw [drn_len]; exact HSG.out.1) HSG.out.2.1 HSG.out.2.2.1
    have g0 := hf d0 m0
    have g1 := hf d1 m1
    have g2 := hf d2 m2
    have HY8 := Lib.hid hy8
    have XW2 := Lib.hid (XW.out.below hb2 XW.out.lt)
    have HB2 := Lib.hid (HBW.out.trans (hb2.mono HBW.out.size))
    have hsz2 := hb2.size
    clear hm hf hsm hb2 hy8 m0 m1 m2 x0 x1 x2 xf0 xf1 xf2 xl
    have x0 := XW2.out.cell 0
    have xf0 := XW2.out.frz 0
    have x1 := XW2.out.cell 1
    have xf1 := XW2.out.frz 1
    have x2 := XW2.out.cell 2
    have xf2 := XW2.out.frz 2
    have xl := XW2.out.lt
    simp at x0 x1 x2
    have ne0 : ¬ (w3.heap.size = w21.heap.size) := by omega
    have ne1 : ¬ (w21.heap.size = w3.heap.size) := by omega
    go_wp2_with fail
    go_roundw
    case rel =>
      have hx := ((HY8.out.other ⟨w3.heap.size, 0, none⟩ (.slice (some ⟨d0, p0, none⟩) 8 q0) (by show w3.heap.size ≠ d0; omega) (by show w3.heap.size ≠ d1; omega) (by show w3.heap.size ≠ d2; omega)).other ⟨w3.heap.size, 1, none⟩ (.slice (some ⟨d1, p1, none⟩) 8 q1) (by show w3.heap.size ≠ d0; omega) (by show w3.heap.size ≠ d1; omega) (by show w3.heap.size ≠ d2; omega)).other ⟨w3.heap.size, 2, none⟩ (.slice (some ⟨d2, p2, none⟩) 8 q2) (by show w3.heap.size ≠ d0; omega) (by show w3.heap.size ≠ d1; omega) (by show w3.heap.size ≠ d2; omega)
      have hbx : Box (((w21.setCell ⟨w3.heap.size, 0, none⟩ (.slice (some ⟨d0, p0, none⟩) 8 q0)).setCell ⟨w3.heap.size, 1, none⟩ (.slice (some ⟨d1, p1, none⟩) 8 q1)).setCell ⟨w3.heap.size, 2, none⟩ (.slice (some ⟨d2, p2, none⟩) 8 q2)) w3.heap.size #[.slice (some ⟨d0, p0, none⟩) 8 q0, .slice (some ⟨d1, p1, none⟩) 8 q1, .slice (some ⟨d2, p2, none⟩) 8 q2] 26 := by
        have h := ((XW2.out.set 0 (.slice (some ⟨d0, p0, none⟩) 8 q0)).set 1 (.slice (some ⟨d1, p1, none⟩) 8 q1)).set 2 (.slice (some ⟨d2, p2, none⟩) 8 q2)
        simpa using h
      exact ⟨k + 1, d0, p0, q0, d1, p1, q1, d2, p2, q2, by omega, by go_num, hx.below ((Below.refl _ _).alloc (Nat.le_refl _) _), by omega, by omega, by omega, hbx.alloc _, (((HB2.out.setCell (p := ⟨w3.heap.size, 0, none⟩) (Nat.le_refl _) _).setCell (p := ⟨w3.heap.size, 1, none⟩) (Nat.le_refl _) _).setCell (p := ⟨w3.heap.size, 2, none⟩) (Nat.le_refl _) _).alloc (by simp only [World.size_setCell]; omega) _⟩
    case measure => simp [intOf]; omega
end
end Go.Proofs.Ytncinocpdeokgaa
