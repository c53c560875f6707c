/-
  The walk of FnSigsBlock on drawn arguments.
-/
import Derived.Test.YtncinocpdeokgaaGDraw3
import Derived.Test.YtncinocpdeokgaaTqSigs
import Derived.Test.YtncinocpdeokgaaGExB
import Derived.Test.YtncinocpdeokgaaGS7
namespace Go.Proofs.Ytncinocpdeokgaa
open Go.RowKit

section
variable {A : Option Addr} {n c : Nat} {w : World}
theorem row_drop {w : World} {hi b o n : Nat} {l : List Bool} (h : RowF elB w hi (some ⟨b, o, none⟩) n l) (d : Nat) (hd : d ≤ n) : RowF elB w hi (some ⟨b, o + d, none⟩) (n - d) (l.drop d) := fun hn => by
  obtain ⟨b', o', e, h1, h2, hc⟩ := h (by omega)
  injection e with e
  injection e with e1 e2
  subst e1 e2
  refine ⟨b, o + d, rfl, h1, h2, fun k hk r hr => ?_⟩
  have h3 := hc (k + d) (by omega) r hr
  have e3 : (l.drop d).getD k elB.z = l.getD (k + d) elB.z := by simp [List.getD_eq_getElem?_getD, Nat.add_comm]
  rw [e3, ← h3]
  have hk1 : elB.K = 1 := rfl
  rw [hk1]
  congr 2
  omega
theorem blk_drop {B L : List Bool} (hB : B.length = 8) (hL : L.length = 8) : (blkTo B L 8).drop 2 = L.drop 2 := by
  apply getD_ext false (by rw [List.length_drop, List.length_drop, blkTo_len]; omega)
  intro k hk
  rw [List.length_drop, blkTo_len] at hk
  have e1 : ∀ l : List Bool, (l.drop 2).getD k false = l.getD (k + 2) false := fun l => by simp [List.getD_eq_getElem?_getD, Nat.add_comm]
  rw [e1, e1, blkTo_at hB (Nat.le_refl 8), if_pos (by omega), decide_eq_true (by omega)]
  simp


set_option maxHeartbeats 4000000 in
set_option maxRecDepth 100000 in
theorem dSigsBlock_walk (hOk : GOk 26) (hBlk : GBlkC 33) (hc : Code w A n) (hcap : n ≤ c) (hcap2 : c ≤ maxLen) : Calls Try.prog 6 #[.slice A n c] w fun e w' => e = .returned (.bool true) ∧ Below w.heap.size w w' := by
  have hn := hc.1
  unfold maxLen at hn
  by_cases hbig : (1048576 : Int) < n
  · go_enter Try.func6, Try.ntmps6
    go_wp2_with fail
    go_ret
    exact ⟨rfl, Below.refl _ _⟩
  have HCODE := Lib.hid hc
  clear hc
  have HOK := Lib.hid hOk
  clear hOk
  have HBLK := Lib.hid hBlk
  clear hBlk
  have HW0 := Lib.hid (Below.refl w.heap.size w)
  go_enter Try.func6, Try.ntmps6
  have HA0 := Lib.hid (show Below w.heap.size w w from (Below.refl _ _))
  go_wp2_with fail
  refine (dDrawSigsBlock_any HCODE.out hcap hcap2).mono ?_
  rintro e w1 ⟨y00, y01, y02, D0, A3, m3, c3, M3, rfl, hr0, hs0, hrow, hlen, hm8, hc3, hb1⟩
  have HC1 := Lib.hid (HA0.out.trans (hb1.mono HA0.out.size))
  have HW1 := Lib.hid (HW0.out.trans (HC1.out.mono HW0.out.size))
  clear hb1
  obtain ⟨A00, n00, c00, A01, n01, c01, A02, n02, c02, hcs⟩ := tySigs_sh hr0
  simp only [List.cons.injEq, and_true] at hcs
  obtain ⟨rfl, rfl, rfl⟩ := hcs
  obtain ⟨H0, B0, L0⟩ := D0
  have HS0 := Lib.hid hs0
  have HLEN := Lib.hid hlen
  have HL3_1 := Lib.hid hrow
  have HR0_1 := Lib.hid (hr0)
  clear hr0 hs0 hrow hlen
  have HA1 := Lib.hid (show Below w1.heap.size w1 (w1.alloc (.cells #[.slice A00 n00 c00, .slice A01 n01 c01, .slice A02 n02 c02] 26)) from ((Below.refl _ _).alloc (Nat.le_refl _) _))
  go_wp2_with fail
  refine (HBLK.out (Ty.below_w HR0_1.out HA1.out) HS0.out (HL3_1.out.wb HA1.out) HLEN.out (by omega)).mono ?_
  rintro e w2 ⟨a0, a1, a2, fp0, rfl, hm0, hf0, hsm0, hcx, hb2⟩
  have HC2 := Lib.hid (HA1.out.trans (hb2.mono HA1.out.size))
  have HW2 := Lib.hid (HW1.out.trans (HC2.out.mono HW1.out.size))
  have HR0_2 := Lib.hid (Ty.below_w HR0_1.out HC2.out)
  have C0_2 := Lib.hid ((Box.new w1 #[.slice A00 n00 c00, .slice A01 n01 c01, .slice A02 n02 c02] 26).below hb2 (by simp only [World.size_alloc]; omega))
  clear hb2
  have HL3_2 := Lib.hid (HL3_1.out.wb HC2.out)
  clear hsm0
  obtain ⟨E00, m00, o00, E01, m01, o01, E02, m02, o02, hcs⟩ := tySigs_shM hm0
  simp only [List.cons.injEq, and_true] at hcs
  obtain ⟨rfl, rfl, rfl⟩ := hcs
  have HQ0_2 := Lib.hid (tySigs.mr hm0 fun b hb => (hf0 b hb).2)
  clear hm0 hf0
  have hcx := hcx _ _ _ rfl
  have HA2 := Lib.hid (show Below w2.heap.size w2 (w2.alloc (.cells #[.slice E00 m00 o00, .slice E01 m01 o01, .slice E02 m02 o02] 26)) from ((Below.refl _ _).alloc (Nat.le_refl _) _))
  have c0_c0 := C0_2.out.cell 0
  have c0_c1 := C0_2.out.cell 1
  have c0_c2 := C0_2.out.cell 2
  simp at c0_c0 c0_c1 c0_c2
  have c0_l := C0_2.out.lt
  go_wp2_with fail
  refine (sigsBlk_s (Ty.below_w HR0_2.out HA2.out) HS0.out (HL3_2.out.wb HA2.out) HLEN.out (by omega)).mono ?_
  rintro e w3 ⟨b0, b1, b2, rfl, hm1, hb3⟩
  clear c0_c0 c0_c1 c0_c2 c0_l
  have HC3 := Lib.hid (HA2.out.trans (hb3.mono HA2.out.size))
  have HW3 := Lib.hid (HW2.out.trans (HC3.out.mono HW2.out.size))
  have HR0_3 := Lib.hid (Ty.below_w HR0_2.out HC3.out)
  have HQ0_3 := Lib.hid (Ty.below_w HQ0_2.out HC3.out)
  have C0_3 := Lib.hid (C0_2.out.below HC3.out C0_2.out.lt)
  have X_3 := Lib.hid ((Box.new w2 #[.slice E00 m00 o00, .slice E01 m01 o01, .slice E02 m02 o02] 26).below hb3 (by simp only [World.size_alloc]; omega))
  clear hb3
  have HL3_3 := Lib.hid (HL3_2.out.wb HC3.out)
  obtain ⟨F10, m10, o10, F11, m11, o11, F12, m12, o12, hcs⟩ := tySigs_sh hm1
  simp only [List.cons.injEq, and_true] at hcs
  obtain ⟨rfl, rfl, rfl⟩ := hcs
  have HQ1_3 := Lib.hid (hm1)
  clear hm1
  have HA3 := Lib.hid (show Below w3.heap.size w3 (w3.alloc (.cells #[.slice F10 m10 o10, .slice F11 m11 o11, .slice F12 m12 o12] 26)) from ((Below.refl _ _).alloc (Nat.le_refl _) _))
  have c0_c0 := C0_3.out.cell 0
  have c0_c1 := C0_3.out.cell 1
  have c0_c2 := C0_3.out.cell 2
  have x_c0 := X_3.out.cell 0
  have x_c1 := X_3.out.cell 1
  have x_c2 := X_3.out.cell 2
  simp at c0_c0 c0_c1 c0_c2 x_c0 x_c1 x_c2
  have c0_l := C0_3.out.lt
  have x_l := X_3.out.lt
  go_wp2_with fail
  refine (qdSigs_t (Ty.below_w HQ0_3.out HA3.out) (Ty.below_w HQ1_3.out HA3.out)).mono ?_
  rintro e w4 ⟨rfl, hb4⟩
  clear c0_c0 c0_c1 c0_c2 x_c0 x_c1 x_c2 c0_l x_l
  have HC4 := Lib.hid (HA3.out.trans (hb4.mono HA3.out.size))
  have HW4 := Lib.hid (HW3.out.trans (HC4.out.mono HW3.out.size))
  have HR0_4 := Lib.hid (Ty.below_w HR0_3.out HC4.out)
  have HQ0_4 := Lib.hid (Ty.below_w HQ0_3.out HC4.out)
  have HQ1_4 := Lib.hid (Ty.below_w HQ1_3.out HC4.out)
  have C0_4 := Lib.hid (C0_3.out.below HC4.out C0_3.out.lt)
  have X_4 := Lib.hid (X_3.out.below HC4.out X_3.out.lt)
  have Y_4 := Lib.hid ((Box.new w3 #[.slice F10 m10 o10, .slice F11 m11 o11, .slice F12 m12 o12] 26).below hb4 (by simp only [World.size_alloc]; omega))
  clear hb4
  have HL3_4 := Lib.hid (HL3_3.out.wb HC4.out)
  have hbb : (blkB (H0, B0, L0) M3 == blkB (H0, B0, L0) M3) = true := by simp
  by_cases h0 : blkB (H0, B0, L0) M3 = true
  case neg =>
    have h0' : blkB (H0, B0, L0) M3 = false := by simpa using h0
    rw [h0']
    clear h0
    have HA4 := Lib.hid (show Below w4.heap.size w4 w4 from (Below.refl _ _))
    have c0_c0 := C0_4.out.cell 0
    have c0_c1 := C0_4.out.cell 1
    have c0_c2 := C0_4.out.cell 2
    have x_c0 := X_4.out.cell 0
    have x_c1 := X_4.out.cell 1
    have x_c2 := X_4.out.cell 2
    have y_c0 := Y_4.out.cell 0
    have y_c1 := Y_4.out.cell 1
    have y_c2 := Y_4.out.cell 2
    simp at c0_c0 c0_c1 c0_c2 x_c0 x_c1 x_c2 y_c0 y_c1 y_c2
    have c0_l := C0_4.out.lt
    have x_l := X_4.out.lt
    have y_l := Y_4.out.lt
    go_wp2_with fail
    go_ret
    exact ⟨rfl, HW4.out⟩
  have HSG := Lib.hid (sig_iff.1 (by have h := h0; unfold blkB at h; rw [Bool.and_eq_true] at h; exact h.1))
  have hl8 : M3.length = 8 := by have h := h0; unfold blkB at h; rw [Bool.and_eq_true, decide_eq_true_eq] at h; exact h.2
  have HOK1 := Lib.hid (blk_ok h0)
  have HSO := Lib.hid (sig_iff.1 (blk_ok h0))
  obtain rfl : m3 = 8 := HLEN.out.symm.trans hl8
  have HQ0_4 := Lib.hid (by have h := HQ0_4.out; rw [blk_yes h0] at h; exact h)
  rw [h0]
  clear h0 hbb
  obtain ⟨bx0, ax0, _, bx1, ax1, _, bx2, ax2, _, hx0, hx1, hx2, hx⟩ := read8 HQ0_4.out HSO.out.1 HSO.out.2.1 HSO.out.2.2.1
  simp only [Value.slice.injEq] at hx0 hx1 hx2
  obtain ⟨rfl, rfl, rfl⟩ := hx0
  obtain ⟨rfl, rfl, rfl⟩ := hx1
  obtain ⟨rfl, rfl, rfl⟩ := hx2
  have EX_4 := Lib.hid hx
  clear hx
  obtain ⟨bs0, as0, _, bs1, as1, _, bs2, as2, _, hx0, hx1, hx2, hx⟩ := read8 HR0_4.out HSG.out.1 HSG.out.2.1 HSG.out.2.2.1
  simp only [Value.slice.injEq] at hx0 hx1 hx2
  obtain ⟨rfl, rfl, rfl⟩ := hx0
  obtain ⟨rfl, rfl, rfl⟩ := hx1
  obtain ⟨rfl, rfl, rfl⟩ := hx2
  have E0_4 := Lib.hid hx
  clear hx
  obtain ⟨b3, a3, rfl, _, _⟩ := row8B HL3_4.out
  obtain ⟨_, _, _, _, _, _, _, _, _, hcs, ⟨_, _, ra⟩, ⟨_, _, rb⟩, ⟨_, _, _⟩⟩ := tySigs_R HQ0_4.out
  simp only [List.cons.injEq, and_true, Value.slice.injEq] at hcs
  obtain ⟨⟨rfl, rfl, rfl⟩, ⟨rfl, rfl, rfl⟩, ⟨rfl, rfl, rfl⟩⟩ := hcs
  obtain ⟨_, _, _, _, _, _, _, _, _, hcs, ⟨_, _, sa⟩, ⟨_, _, _⟩, ⟨_, _, _⟩⟩ := tySigs_R HR0_4.out
  simp only [List.cons.injEq, and_true, Value.slice.injEq] at hcs
  obtain ⟨⟨rfl, rfl, rfl⟩, ⟨rfl, rfl, rfl⟩, ⟨rfl, rfl, rfl⟩⟩ := hcs
  have HXA_4 := Lib.hid ra
  have HSA_4 := Lib.hid sa
  have HXB_4 := Lib.hid (row_drop rb 2 (by omega))
  have HMB_4 := Lib.hid (row_drop HL3_4.out 2 (by omega))
  have e8 := blk_drop (B := B0) (L := M3) HSG.out.2.1 hl8
  dsimp only at HXA_4 HSA_4 HXB_4 HMB_4
  rw [e8] at HXB_4
  have r0 := EX_4.out.c1 0 (by omega)
  have r1 := EX_4.out.c1 1 (by omega)
  dsimp only at r0 r1
  rw [blkTo_at HSG.out.2.1 (Nat.le_refl 8), if_pos (by omega), decide_eq_false (by omega), Bool.and_false] at r0 r1
  rw [Nat.add_zero] at r0
  have HR0X := Lib.hid r0
  have HR1X := Lib.hid r1
  have hq1 : ¬ (o01 = 2) := by omega
  have hq2 : ¬ (c3 = 2) := by omega
  clear ra rb sa e8 r0 r1 hl8 hm8 hcx hc3
  have HA4 := Lib.hid (show Below w4.heap.size w4 w4 from (Below.refl _ _))
  have c0_c0 := C0_4.out.cell 0
  have c0_c1 := C0_4.out.cell 1
  have c0_c2 := C0_4.out.cell 2
  have x_c0 := X_4.out.cell 0
  have x_c1 := X_4.out.cell 1
  have x_c2 := X_4.out.cell 2
  have y_c0 := Y_4.out.cell 0
  have y_c1 := Y_4.out.cell 1
  have y_c2 := Y_4.out.cell 2
  simp at c0_c0 c0_c1 c0_c2 x_c0 x_c1 x_c2 y_c0 y_c1 y_c2
  have c0_l := C0_4.out.lt
  have x_l := X_4.out.lt
  have y_l := Y_4.out.lt
  have r0 := HR0X.out
  have r1 := HR1X.out
  go_wp2_with fail
  refine wp_region_held_drew (S := fun w' => w'.cell? ⟨w2.heap.size, 0, none⟩ = some (.slice (some ⟨bx0, ax0, none⟩) 8 o00) ∧ w'.cell? ⟨w2.heap.size, 1, none⟩ = some (.slice (some ⟨bx1, ax1, none⟩) 8 o01) ∧ w'.cell? ⟨w2.heap.size, 2, none⟩ = some (.slice (some ⟨bx2, ax2, none⟩) 8 o02) ∧ w'.cell? ⟨w1.heap.size, 0, none⟩ = some (.slice (some ⟨bs0, as0, none⟩) 8 c00) ∧ w'.cell? ⟨bx1, ax1, none⟩ = some (.bool false) ∧ w'.cell? ⟨bx1, ax1 + 1, none⟩ = some (.bool false)) (by kernel_rfl) ⟨x_c0, x_c1, x_c2, c0_c0, r0, r1⟩ (fun hHeld => ?_)
  refine wpAnyH_take (i := 0) (v := ?vr0) rfl (by kernel_rfl) (by kernel_rfl) (by kernel_rfl) (fun _ _ _ h => h) (Or.inl ⟨by rfl, ?hyr0⟩) (by assumption) ?restr0
  case hyr0 =>
    intro w hSw
    try dsimp only at hSw
    go_simp
    try with_reducible rfl
  simp only [Act.put, List.setIfInBounds_toArray, List.set_cons_zero, List.set_cons_succ, List.getElem_toArray, List.getElem_cons_zero]
  refine wpAnyH_ready (rs := [1]) (by kernel_rfl) (by simp) ?_
  refine AllReadyH.cons rfl (fun K hK => ?_) AllReadyH.nil
  go_simp
  go_at_call 26
  refine (HOK.out (Ty.below_w HQ0_4.out (Below.refl _ _).drew)).mono ?_
  rw [HOK1.out]
  rintro e w5 ⟨rfl, hb5⟩
  have HC5 := Lib.hid (show Below w4.heap.size w4 w5 from (Below.refl _ _).drew.trans (hb5.mono (Nat.le_refl _)))
  have HW5 := Lib.hid (HW4.out.trans (HC5.out.mono HW4.out.size))
  have HR0_5 := Lib.hid (Ty.below_w HR0_4.out HC5.out)
  have HQ0_5 := Lib.hid (Ty.below_w HQ0_4.out HC5.out)
  have HQ1_5 := Lib.hid (Ty.below_w HQ1_4.out HC5.out)
  have C0_5 := Lib.hid (C0_4.out.below HC5.out C0_4.out.lt)
  have X_5 := Lib.hid (X_4.out.below HC5.out X_4.out.lt)
  have Y_5 := Lib.hid (Y_4.out.below HC5.out Y_4.out.lt)
  have EX_5 := Lib.hid (EX_4.out.below HC5.out)
  have HL3_5 := Lib.hid (HL3_4.out.wb HC5.out)
  have HXA_5 := Lib.hid (HXA_4.out.wb HC5.out)
  have HSA_5 := Lib.hid (HSA_4.out.wb HC5.out)
  have HXB_5 := Lib.hid (HXB_4.out.wb HC5.out)
  have HMB_5 := Lib.hid (HMB_4.out.wb HC5.out)
  clear hb5
  have HK5 := Lib.hid HC5.out
  refine hK.out _ _ ?_ (fun hHeld => ?_)
  · exact ⟨X_5.out.cell 0, X_5.out.cell 1, X_5.out.cell 2, C0_5.out.cell 0, (kc HK5.out _ _ EX_4.out.h1).trans HR0X.out, (kc HK5.out _ _ EX_4.out.h1).trans HR1X.out⟩
  clear hK K
  try simp only [Act.put, List.setIfInBounds_toArray, List.set_cons_zero, List.set_cons_succ, List.getElem_toArray, List.getElem_cons_zero, List.getElem_cons_succ]
  refine wpAnyH_take (i := 2) (v := ?vr2) rfl (by kernel_rfl) (by kernel_rfl) (by kernel_rfl) (fun _ _ _ h => h) (Or.inl ⟨by rfl, ?hyr2⟩) (by assumption) ?restr2
  case hyr2 =>
    intro w hSw
    try dsimp only at hSw
    go_simp
    try with_reducible rfl
  simp only [Act.put, List.setIfInBounds_toArray, List.set_cons_zero, List.set_cons_succ, List.getElem_toArray, List.getElem_cons_zero, List.getElem_cons_succ]
  refine wpAnyH_take (i := 3) (v := ?vr3) rfl (by kernel_rfl) (by kernel_rfl) (by kernel_rfl) (fun _ _ _ h => h) (Or.inl ⟨by rfl, ?hyr3⟩) (by assumption) ?restr3
  case hyr3 =>
    intro w hSw
    try dsimp only at hSw
    go_simp
    try with_reducible rfl
  simp only [Act.put, List.setIfInBounds_toArray, List.set_cons_zero, List.set_cons_succ, List.getElem_toArray, List.getElem_cons_zero, List.getElem_cons_succ]
  refine wpAnyH_take (i := 4) (v := ?vr4) rfl (by kernel_rfl) (by kernel_rfl) (by kernel_rfl) (fun _ _ _ h => h) (Or.inl ⟨by rfl, ?hyr4⟩) (by assumption) ?restr4
  case hyr4 =>
    intro w hSw
    try dsimp only at hSw
    go_simp
    try with_reducible rfl
  simp only [Act.put, List.setIfInBounds_toArray, List.set_cons_zero, List.set_cons_succ, List.getElem_toArray, List.getElem_cons_zero, List.getElem_cons_succ]
  refine wpAnyH_take (i := 5) (v := ?vr5) rfl (by kernel_rfl) (by kernel_rfl) (by kernel_rfl) (fun _ _ _ h => h) (Or.inl ⟨by rfl, ?hyr5⟩) (by assumption) ?restr5
  case hyr5 =>
    intro w hSw
    try dsimp only at hSw
    go_simp
    try with_reducible rfl
  simp only [Act.put, List.setIfInBounds_toArray, List.set_cons_zero, List.set_cons_succ, List.getElem_toArray, List.getElem_cons_zero, List.getElem_cons_succ]
  refine wpAnyH_take (i := 6) (v := ?vr6) rfl (by kernel_rfl) (by kernel_rfl) (by kernel_rfl) (fun _ _ _ h => h) (Or.inl ⟨by rfl, ?hyr6⟩) (by assumption) ?restr6
  case hyr6 =>
    intro w hSw
    try dsimp only at hSw
    go_simp
    try with_reducible rfl
  simp only [Act.put, List.setIfInBounds_toArray, List.set_cons_zero, List.set_cons_succ, List.getElem_toArray, List.getElem_cons_zero, List.getElem_cons_succ]
  refine wpAnyH_take (i := 7) (v := ?vr7) rfl (by kernel_rfl) (by kernel_rfl) (by kernel_rfl) (fun _ _ _ h => h) (Or.inl ⟨by rfl, ?hyr7⟩) (by assumption) ?restr7
  case hyr7 =>
    intro w hSw
    try dsimp only at hSw
    go_simp
    try with_reducible rfl
  simp only [Act.put, List.setIfInBounds_toArray, List.set_cons_zero, List.set_cons_succ, List.getElem_toArray, List.getElem_cons_zero, List.getElem_cons_succ]
  refine wpAnyH_take (i := 8) (v := ?vr8) rfl (by kernel_rfl) (by kernel_rfl) (by kernel_rfl) (fun _ _ _ h => h) (Or.inl ⟨by rfl, ?hyr8⟩) (by assumption) ?restr8
  case hyr8 =>
    intro w hSw
    try dsimp only at hSw
    go_simp
    try with_reducible rfl
  simp only [Act.put, List.setIfInBounds_toArray, List.set_cons_zero, List.set_cons_succ, List.getElem_toArray, List.getElem_cons_zero, List.getElem_cons_succ]
  refine wpAnyH_take (i := 9) (v := ?vr9) rfl (by kernel_rfl) (by kernel_rfl) (by kernel_rfl) (fun _ _ _ h => h) (Or.inl ⟨by rfl, ?hyr9⟩) (by assumption) ?restr9
  case hyr9 =>
    intro w hSw
    try dsimp only at hSw
    go_simp
    try with_reducible rfl
  simp only [Act.put, List.setIfInBounds_toArray, List.set_cons_zero, List.set_cons_succ, List.getElem_toArray, List.getElem_cons_zero, List.getElem_cons_succ]
  refine wpAnyH_take (i := 10) (v := ?vr10) rfl (by kernel_rfl) (by kernel_rfl) (by kernel_rfl) (fun _ _ _ h => h) (Or.inl ⟨by rfl, ?hyr10⟩) (by assumption) ?restr10
  case hyr10 =>
    intro w hSw
    try dsimp only at hSw
    go_simp
    try with_reducible rfl
  simp only [Act.put, List.setIfInBounds_toArray, List.set_cons_zero, List.set_cons_succ, List.getElem_toArray, List.getElem_cons_zero, List.getElem_cons_succ]
  refine wpAnyH_take (i := 11) (v := ?vr11) rfl (by kernel_rfl) (by kernel_rfl) (by kernel_rfl) (fun _ _ _ h => h) (Or.inl ⟨by rfl, ?hyr11⟩) (by assumption) ?restr11
  case hyr11 =>
    intro w hSw
    try dsimp only at hSw
    go_simp
    try with_reducible rfl
  simp only [Act.put, List.setIfInBounds_toArray, List.set_cons_zero, List.set_cons_succ, List.getElem_toArray, List.getElem_cons_zero, List.getElem_cons_succ]
  refine wpAnyH_take (i := 12) (v := ?vr12) rfl (by kernel_rfl) (by kernel_rfl) (by kernel_rfl) (fun _ _ _ h => h) (Or.inl ⟨by rfl, ?hyr12⟩) (by assumption) ?restr12
  case hyr12 =>
    intro w hSw
    try dsimp only at hSw
    go_simp
    try with_reducible rfl
  simp only [Act.put, List.setIfInBounds_toArray, List.set_cons_zero, List.set_cons_succ, List.getElem_toArray, List.getElem_cons_zero, List.getElem_cons_succ]
  refine wpAnyH_take (i := 13) (v := ?vr13) rfl (by kernel_rfl) (by kernel_rfl) (by kernel_rfl) (fun _ _ _ h => h) (Or.inl ⟨by rfl, ?hyr13⟩) (by assumption) ?restr13
  case hyr13 =>
    intro w hSw
    try dsimp only at hSw
    go_simp
    try with_reducible rfl
  simp only [Act.put, List.setIfInBounds_toArray, List.set_cons_zero, List.set_cons_succ, List.getElem_toArray, List.getElem_cons_zero, List.getElem_cons_succ]
  refine wpAnyH_take (i := 14) (v := ?vr14) rfl (by kernel_rfl) (by kernel_rfl) (by kernel_rfl) (fun _ _ _ h => h) (Or.inl ⟨by rfl, ?hyr14⟩) (by assumption) ?restr14
  case hyr14 =>
    intro w hSw
    try dsimp only at hSw
    go_simp
    try with_reducible rfl
  simp only [Act.put, List.setIfInBounds_toArray, List.set_cons_zero, List.set_cons_succ, List.getElem_toArray, List.getElem_cons_zero, List.getElem_cons_succ]
  refine wpAnyH_take (i := 15) (v := ?vr15) rfl (by kernel_rfl) (by kernel_rfl) (by kernel_rfl) (fun _ _ _ h => h) (Or.inl ⟨by rfl, ?hyr15⟩) (by assumption) ?restr15
  case hyr15 =>
    intro w hSw
    try dsimp only at hSw
    go_simp
    try with_reducible rfl
  simp only [Act.put, List.setIfInBounds_toArray, List.set_cons_zero, List.set_cons_succ, List.getElem_toArray, List.getElem_cons_zero, List.getElem_cons_succ]
  refine wpAnyH_take (i := 16) (v := ?vr16) rfl (by kernel_rfl) (by kernel_rfl) (by kernel_rfl) (fun _ _ _ h => h) (Or.inl ⟨by rfl, ?hyr16⟩) (by assumption) ?restr16
  case hyr16 =>
    intro w hSw
    try dsimp only at hSw
    go_simp
    try with_reducible rfl
  simp only [Act.put, List.setIfInBounds_toArray, List.set_cons_zero, List.set_cons_succ, List.getElem_toArray, List.getElem_cons_zero, List.getElem_cons_succ]
  refine wpAnyH_take (i := 17) (v := ?vr17) rfl (by kernel_rfl) (by kernel_rfl) (by kernel_rfl) (fun _ _ _ h => h) (Or.inl ⟨by rfl, ?hyr17⟩) (by assumption) ?restr17
  case hyr17 =>
    intro w hSw
    try dsimp only at hSw
    go_simp
    try with_reducible rfl
  simp only [Act.put, List.setIfInBounds_toArray, List.set_cons_zero, List.set_cons_succ, List.getElem_toArray, List.getElem_cons_zero, List.getElem_cons_succ]
  refine wpAnyH_take (i := 18) (v := ?vr18) rfl (by kernel_rfl) (by kernel_rfl) (by kernel_rfl) (fun _ _ _ h => h) (Or.inl ⟨by rfl, ?hyr18⟩) (by assumption) ?restr18
  case hyr18 =>
    intro w hSw
    try dsimp only at hSw
    go_simp
    try with_reducible rfl
  simp only [Act.put, List.setIfInBounds_toArray, List.set_cons_zero, List.set_cons_succ, List.getElem_toArray, List.getElem_cons_zero, List.getElem_cons_succ]
  refine wpAnyH_take (i := 19) (v := ?vr19) rfl (by kernel_rfl) (by kernel_rfl) (by kernel_rfl) (fun _ _ _ h => h) (Or.inl ⟨by rfl, ?hyr19⟩) (by assumption) ?restr19
  case hyr19 =>
    intro w hSw
    try dsimp only at hSw
    go_simp
    try with_reducible rfl
  simp only [Act.put, List.setIfInBounds_toArray, List.set_cons_zero, List.set_cons_succ, List.getElem_toArray, List.getElem_cons_zero, List.getElem_cons_succ]
  refine wpAnyH_take (i := 20) (v := ?vr20) rfl (by kernel_rfl) (by kernel_rfl) (by kernel_rfl) (fun _ _ _ h => h) (Or.inl ⟨by rfl, ?hyr20⟩) (by assumption) ?restr20
  case hyr20 =>
    intro w hSw
    try dsimp only at hSw
    go_simp
    try with_reducible rfl
  simp only [Act.put, List.setIfInBounds_toArray, List.set_cons_zero, List.set_cons_succ, List.getElem_toArray, List.getElem_cons_zero, List.getElem_cons_succ]
  refine wpAnyH_take (i := 21) (v := ?vr21) rfl (by kernel_rfl) (by kernel_rfl) (by kernel_rfl) (fun _ _ _ h => h) (Or.inl ⟨by rfl, ?hyr21⟩) (by assumption) ?restr21
  case hyr21 =>
    intro w hSw
    try dsimp only at hSw
    go_simp
    try with_reducible rfl
  simp only [Act.put, List.setIfInBounds_toArray, List.set_cons_zero, List.set_cons_succ, List.getElem_toArray, List.getElem_cons_zero, List.getElem_cons_succ]
  refine wpAnyH_ready (rs := [22]) (by kernel_rfl) (by simp) ?_
  refine AllReadyH.cons rfl (fun K hK => ?_) AllReadyH.nil
  go_simp
  go_at_call 35
  refine (qdBool_S HXB_5.out HMB_5.out (by omega)).mono ?_
  rintro e w6 ⟨rfl, hb6⟩
  have HC6 := Lib.hid (show Below w5.heap.size w5 w6 from hb6)
  have HW6 := Lib.hid (HW5.out.trans (HC6.out.mono HW5.out.size))
  have HR0_6 := Lib.hid (Ty.below_w HR0_5.out HC6.out)
  have HQ0_6 := Lib.hid (Ty.below_w HQ0_5.out HC6.out)
  have HQ1_6 := Lib.hid (Ty.below_w HQ1_5.out HC6.out)
  have C0_6 := Lib.hid (C0_5.out.below HC6.out C0_5.out.lt)
  have X_6 := Lib.hid (X_5.out.below HC6.out X_5.out.lt)
  have Y_6 := Lib.hid (Y_5.out.below HC6.out Y_5.out.lt)
  have EX_6 := Lib.hid (EX_5.out.below HC6.out)
  have HL3_6 := Lib.hid (HL3_5.out.wb HC6.out)
  have HXA_6 := Lib.hid (HXA_5.out.wb HC6.out)
  have HSA_6 := Lib.hid (HSA_5.out.wb HC6.out)
  have HXB_6 := Lib.hid (HXB_5.out.wb HC6.out)
  have HMB_6 := Lib.hid (HMB_5.out.wb HC6.out)
  clear hb6
  have HK6 := Lib.hid (HK5.out.trans (HC6.out.mono HK5.out.size))
  refine hK.out _ _ ?_ (fun hHeld => ?_)
  · exact ⟨X_6.out.cell 0, X_6.out.cell 1, X_6.out.cell 2, C0_6.out.cell 0, (kc HK6.out _ _ EX_4.out.h1).trans HR0X.out, (kc HK6.out _ _ EX_4.out.h1).trans HR1X.out⟩
  clear hK K
  try simp only [Act.put, List.setIfInBounds_toArray, List.set_cons_zero, List.set_cons_succ, List.getElem_toArray, List.getElem_cons_zero, List.getElem_cons_succ]
  refine wpAnyH_take (i := 23) (v := ?vr23) rfl (by kernel_rfl) (by kernel_rfl) (by kernel_rfl) (fun _ _ _ h => h) (Or.inl ⟨by rfl, ?hyr23⟩) (by assumption) ?restr23
  case hyr23 =>
    intro w hSw
    try dsimp only at hSw
    go_simp
    try with_reducible rfl
  simp only [Act.put, List.setIfInBounds_toArray, List.set_cons_zero, List.set_cons_succ, List.getElem_toArray, List.getElem_cons_zero, List.getElem_cons_succ]
  refine wpAnyH_take (i := 24) (v := ?vr24) rfl (by kernel_rfl) (by kernel_rfl) (by kernel_rfl) (fun _ _ _ h => h) (Or.inl ⟨by rfl, ?hyr24⟩) (by assumption) ?restr24
  case hyr24 =>
    intro w hSw
    try dsimp only at hSw
    go_simp
    try with_reducible rfl
  simp only [Act.put, List.setIfInBounds_toArray, List.set_cons_zero, List.set_cons_succ, List.getElem_toArray, List.getElem_cons_zero, List.getElem_cons_succ]
  refine wpAnyH_take (i := 25) (v := ?vr25) rfl (by kernel_rfl) (by kernel_rfl) (by kernel_rfl) (fun _ _ _ h => h) (Or.inl ⟨by rfl, ?hyr25⟩) (by assumption) ?restr25
  case hyr25 =>
    intro w hSw
    try dsimp only at hSw
    go_simp
    try with_reducible rfl
  simp only [Act.put, List.setIfInBounds_toArray, List.set_cons_zero, List.set_cons_succ, List.getElem_toArray, List.getElem_cons_zero, List.getElem_cons_succ]
  refine wpAnyH_take (i := 26) (v := ?vr26) rfl (by kernel_rfl) (by kernel_rfl) (by kernel_rfl) (fun _ _ _ h => h) (Or.inl ⟨by rfl, ?hyr26⟩) (by assumption) ?restr26
  case hyr26 =>
    intro w hSw
    try dsimp only at hSw
    go_simp
    try with_reducible rfl
  simp only [Act.put, List.setIfInBounds_toArray, List.set_cons_zero, List.set_cons_succ, List.getElem_toArray, List.getElem_cons_zero, List.getElem_cons_succ]
  refine wpAnyH_take (i := 27) (v := ?vr27) rfl (by kernel_rfl) (by kernel_rfl) (by kernel_rfl) (fun _ _ _ h => h) (Or.inl ⟨by rfl, ?hyr27⟩) (by assumption) ?restr27
  case hyr27 =>
    intro w hSw
    try dsimp only at hSw
    go_simp
    try with_reducible rfl
  simp only [Act.put, List.setIfInBounds_toArray, List.set_cons_zero, List.set_cons_succ, List.getElem_toArray, List.getElem_cons_zero, List.getElem_cons_succ]
  refine wpAnyH_take (i := 28) (v := ?vr28) rfl (by kernel_rfl) (by kernel_rfl) (by kernel_rfl) (fun _ _ _ h => h) (Or.inl ⟨by rfl, ?hyr28⟩) (by assumption) ?restr28
  case hyr28 =>
    intro w hSw
    try dsimp only at hSw
    go_simp
    try with_reducible rfl
  simp only [Act.put, List.setIfInBounds_toArray, List.set_cons_zero, List.set_cons_succ, List.getElem_toArray, List.getElem_cons_zero, List.getElem_cons_succ]
  refine wpAnyH_ready (rs := [29]) (by kernel_rfl) (by simp) ?_
  refine AllReadyH.cons rfl (fun K hK => ?_) AllReadyH.nil
  go_simp
  go_at_call 35
  refine (qdBool_S HXA_6.out HSA_6.out (by omega)).mono ?_
  rintro e w7 ⟨rfl, hb7⟩
  have HC7 := Lib.hid (show Below w6.heap.size w6 w7 from hb7)
  have HW7 := Lib.hid (HW6.out.trans (HC7.out.mono HW6.out.size))
  have HR0_7 := Lib.hid (Ty.below_w HR0_6.out HC7.out)
  have HQ0_7 := Lib.hid (Ty.below_w HQ0_6.out HC7.out)
  have HQ1_7 := Lib.hid (Ty.below_w HQ1_6.out HC7.out)
  have C0_7 := Lib.hid (C0_6.out.below HC7.out C0_6.out.lt)
  have X_7 := Lib.hid (X_6.out.below HC7.out X_6.out.lt)
  have Y_7 := Lib.hid (Y_6.out.below HC7.out Y_6.out.lt)
  have EX_7 := Lib.hid (EX_6.out.below HC7.out)
  have HL3_7 := Lib.hid (HL3_6.out.wb HC7.out)
  have HXA_7 := Lib.hid (HXA_6.out.wb HC7.out)
  have HSA_7 := Lib.hid (HSA_6.out.wb HC7.out)
  have HXB_7 := Lib.hid (HXB_6.out.wb HC7.out)
  have HMB_7 := Lib.hid (HMB_6.out.wb HC7.out)
  clear hb7
  have HK7 := Lib.hid (HK6.out.trans (HC7.out.mono HK6.out.size))
  refine hK.out _ _ ?_ (fun hHeld => ?_)
  · exact ⟨X_7.out.cell 0, X_7.out.cell 1, X_7.out.cell 2, C0_7.out.cell 0, (kc HK7.out _ _ EX_4.out.h1).trans HR0X.out, (kc HK7.out _ _ EX_4.out.h1).trans HR1X.out⟩
  clear hK K
  try simp only [Act.put, List.setIfInBounds_toArray, List.set_cons_zero, List.set_cons_succ, List.getElem_toArray, List.getElem_cons_zero, List.getElem_cons_succ]
  refine wpAnyH_take (i := 30) (v := ?vr30) rfl (by kernel_rfl) (by kernel_rfl) (by kernel_rfl) (fun _ _ _ h => h) (Or.inl ⟨by rfl, ?hyr30⟩) (by assumption) ?restr30
  case hyr30 =>
    intro w hSw
    try dsimp only at hSw
    go_simp
    try with_reducible rfl
  simp only [Act.put, List.setIfInBounds_toArray, List.set_cons_zero, List.set_cons_succ, List.getElem_toArray, List.getElem_cons_zero, List.getElem_cons_succ]
  refine wpAnyH_take (i := 31) (v := ?vr31) rfl (by kernel_rfl) (by kernel_rfl) (by kernel_rfl) (fun _ _ _ h => h) (Or.inl ⟨by rfl, ?hyr31⟩) (by assumption) ?restr31
  case hyr31 =>
    intro w hSw
    try dsimp only at hSw
    go_simp
    try with_reducible rfl
  simp only [Act.put, List.setIfInBounds_toArray, List.set_cons_zero, List.set_cons_succ, List.getElem_toArray, List.getElem_cons_zero, List.getElem_cons_succ]
  refine wpAnyH_done (by kernel_rfl) ?_ _
  go_wp2_with fail
  go_ret
  exact ⟨rfl, HW7.out⟩
end
end Go.Proofs.Ytncinocpdeokgaa
