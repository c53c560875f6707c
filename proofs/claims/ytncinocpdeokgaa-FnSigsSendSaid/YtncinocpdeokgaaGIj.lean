/-
  The program's SigsNew, SigsFork, SigsRun.
-/
import Derived.Test.YtncinocpdeokgaaGIi
namespace Go.Proofs.Ytncinocpdeokgaa
open Go.RowKit

section
variable {w : World}
set_option maxHeartbeats 1000000 in
theorem sigsNewI : GNew 22 := by
  intro w
  have HB0 := Lib.hid (show Below w.heap.size w (w.alloc (.cells #[.slice none 0 0, .slice none 0 0, .slice none 0 0] 26)) from (Below.refl _ _).alloc (Nat.le_refl _) _)
  have HZ0 := Lib.hid (Box.new w #[.slice none 0 0, .slice none 0 0, .slice none 0 0] 26)
  go_enter Try.func22, Try.ntmps22
  go_wp2_with fail
  rw [st_zero]
  refine (sigsI noB noB noI ⟨rfl, rfl, rfl⟩).mono ?_
  rintro e w9 ⟨g0, g1, g2, k0, k1, k2, rfl, hs, hb, hk0, hk1, hk2⟩
  have HZ9 := Lib.hid (HZ0.out.below hb HZ0.out.lt)
  have HB9 := Lib.hid (HB0.out.trans (hb.mono HB0.out.size))
  have hz0 := HZ0.out.lt
  have HE := Lib.hid (sig_end hs (z := w.heap.size) (by omega) (by omega) HB9.out (.slice (some ⟨g0, 0, none⟩) 8 k0) (.slice (some ⟨g1, 0, none⟩) 8 k1) (.slice (some ⟨g2, 0, none⟩) 8 k2) k0 k1 k2)
  clear hs hb
  have z0 := HZ9.out.cell 0
  have z1 := HZ9.out.cell 1
  have z2 := HZ9.out.cell 2
  have f0 := HZ9.out.frz 0
  have f1 := HZ9.out.frz 1
  have f2 := HZ9.out.frz 2
  have zl := HZ9.out.lt
  simp at z0 z1 z2
  go_wp2_with fail
  exact bodyPost_ret (v := .agg #[.slice (some ⟨g0, 0, none⟩) 8 k0, .slice (some ⟨g1, 0, none⟩) 8 k1, .slice (some ⟨g2, 0, none⟩) 8 k2]) (by simp [results, Try.results22, go_sem, z0, z1, z2]) rfl ⟨_, _, _, _, rfl, HE.out⟩
set_option maxHeartbeats 1000000 in
theorem sigsFrkI : GFrk 42 := by
  intro w hi x0 x1 x2 D h hs
  have HA := Lib.hid h
  have HSM := Lib.hid hs
  clear hs
  obtain ⟨A0, n0, c0, A1, n1, c1, A2, n2, c2, hcs⟩ := tySigs_sh h
  simp only [List.cons.injEq, and_true] at hcs
  obtain ⟨rfl, rfl, rfl⟩ := hcs
  clear h
  have HB0 := Lib.hid (show Below w.heap.size w ((w.alloc (.cells #[.slice A0 n0 c0, .slice A1 n1 c1, .slice A2 n2 c2] 26)).alloc (.cells #[.slice none 0 0, .slice none 0 0, .slice none 0 0] 26)) from ((Below.refl _ _).alloc (Nat.le_refl _) _).alloc (by simp only [World.size_alloc]; omega) _)
  have HZ0 := Lib.hid (Box.new (w.alloc (.cells #[.slice A0 n0 c0, .slice A1 n1 c1, .slice A2 n2 c2] 26)) #[.slice none 0 0, .slice none 0 0, .slice none 0 0] 26)
  simp only [World.size_alloc] at HZ0
  go_enter Try.func42, Try.ntmps42
  go_wp2_with fail
  refine (stateI (Ty.below_w HA.out HB0.out)).mono ?_
  rintro e w1 ⟨rfl, hb⟩
  have HZ1 := Lib.hid (HZ0.out.below hb HZ0.out.lt)
  have HB1 := Lib.hid (HB0.out.trans (hb.mono HB0.out.size))
  have hgl := HZ1.out.lt
  have HN1 := Lib.hid (Box.new w1 #[.bool false, .bool false, .bool false, .bool false, .bool false, .bool false, .bool false, .bool false, .bool false, .bool false, .bool false, .bool false, .bool false, .bool false, .bool false, .bool false, .int .i64 0, .int .i64 0, .int .i64 0, .int .i64 0, .int .i64 0, .int .i64 0, .int .i64 0, .int .i64 0] 63)
  replace HZ1 := Lib.hid (HZ1.out.alloc (.cells #[.bool false, .bool false, .bool false, .bool false, .bool false, .bool false, .bool false, .bool false, .bool false, .bool false, .bool false, .bool false, .bool false, .bool false, .bool false, .bool false, .int .i64 0, .int .i64 0, .int .i64 0, .int .i64 0, .int .i64 0, .int .i64 0, .int .i64 0, .int .i64 0] 63))
  replace HB1 := Lib.hid (HB1.out.alloc HB1.out.size (.cells #[.bool false, .bool false, .bool false, .bool false, .bool false, .bool false, .bool false, .bool false, .bool false, .bool false, .bool false, .bool false, .bool false, .bool false, .bool false, .bool false, .int .i64 0, .int .i64 0, .int .i64 0, .int .i64 0, .int .i64 0, .int .i64 0, .int .i64 0, .int .i64 0] 63))
  simp only [st_zero] at HN1 HZ1 HB1
  clear hb HZ0 HB0
  cases hc : sigB D
  · have HR := Lib.hid hc
    have HV := Lib.hid (show frkD D = sgZ by unfold frkD; rw [hc]; rfl)
    rw [stR_no HR.out]
    clear hc
    go_wp2_with (refine wpList_store_box rfl 63 _ _ rfl w1.heap.size 0 (stA noB noB noI) rfl rfl 63 (stA noB noB noI) HN1.out st_size (Nat.le_refl 24) (stA_one _ _ _) (stA noB noB noI) (stA_put _ _ _ _ _ _) ?_
                 intro w2 hb2 hf2
                 have HN2 := Lib.hid hb2
                 have HZ2 := Lib.hid (hf2.box HZ1.out (by rw [List.mem_singleton]; omega))
                 have HB2 := Lib.hid (HB1.out.trans (hf2.below (Nat.le_trans (by omega) (Nat.le_of_lt HN1.out.lt)) (by intro b hb; rw [List.mem_singleton] at hb; omega)))
                 have z0 := HZ2.out.cell 0
                 have z1 := HZ2.out.cell 1
                 have z2 := HZ2.out.cell 2
                 have f0 := HZ2.out.frz 0
                 have f1 := HZ2.out.frz 1
                 have f2 := HZ2.out.frz 2
                 have zl := HZ2.out.lt
                 simp at z0 z1 z2
                 clear hb2 hf2 HN1 HZ1 HB1)
    exact bodyPost_ret (v := .agg #[.slice none 0 0, .slice none 0 0, .slice none 0 0]) (by simp [results, Try.results42, go_sem, z0, z1, z2]) rfl ⟨_, _, _, [], rfl, by rw [HV.out]; exact nilSigs, fun b h => absurd h List.not_mem_nil, by rw [HV.out]; exact nilSmall, ((HB2.out.setCell (p := ⟨w.heap.size + 1, 0, none⟩) (by show w.heap.size ≤ w.heap.size + 1; omega) _).setCell (p := ⟨w.heap.size + 1, 1, none⟩) (by show w.heap.size ≤ w.heap.size + 1; omega) _).setCell (p := ⟨w.heap.size + 1, 2, none⟩) (by show w.heap.size ≤ w.heap.size + 1; omega) _⟩
  · have HR := Lib.hid hc
    have HL := Lib.hid (show D.1.length = 8 ∧ D.2.1.length = 8 ∧ D.2.2.length = 8 from ⟨(sig_len hc).1, (sig_len hc).2.1, (sig_len hc).2.2.1⟩)
    rw [stR_yes HR.out]
    obtain ⟨H, B, L⟩ := D
    dsimp only at HL ⊢
    clear hc
    have HY := Lib.hid (show frkD (H, B, L) = (noB, B, L) from frk_yes HR.out)
    go_wp2_with (first
        | (refine wpList_store_box rfl 63 _ _ rfl w1.heap.size 0 (stA H B L) rfl rfl 63 (stA noB noB noI) HN1.out st_size (Nat.le_refl 24) (stA_one _ _ _) (stA H B L) (stA_put _ _ _ _ _ _) ?_; intro w2 hb2 hf2; have HN2 := Lib.hid hb2; have HZ2 := Lib.hid (hf2.box HZ1.out (by rw [List.mem_singleton]; omega)); have HB2 := Lib.hid (HB1.out.trans (hf2.below (Nat.le_trans (by omega) (Nat.le_of_lt HN1.out.lt)) (by intro b hb; rw [List.mem_singleton] at hb; omega))); have z0 := HZ2.out.cell 0; have z1 := HZ2.out.cell 1; have z2 := HZ2.out.cell 2; have f0 := HZ2.out.frz 0; have f1 := HZ2.out.frz 1; have f2 := HZ2.out.frz 2; have zl := HZ2.out.lt; simp at z0 z1 z2; clear hb2 hf2 HN1 HZ1 HB1)
        | (refine wpList_store_box rfl 59 _ _ rfl w1.heap.size 0 (bA noB) rfl rfl 63 (stA H B L) HN2.out set_size (le24 (show 0 + 8 ≤ 24 by decide)) (bA_one _) (stA noB B L) (stA_put0 _ _ _ _) ?_; intro w3 hb2 hf2; have HN3 := Lib.hid hb2; have HZ3 := Lib.hid (hf2.box HZ2.out (by rw [List.mem_singleton]; omega)); have HB3 := Lib.hid (HB2.out.trans (hf2.below HB2.out.size (by intro b hb; rw [List.mem_singleton] at hb; omega))); clear hb2 hf2)
        | (refine wpList_load_box rfl 63 _ rfl w1.heap.size 0 24 rfl 63 (stA noB B L) _ HN3.out Try.underlying63 rfl st_size (Nat.le_refl 24) (stA noB B L) (stA_all _ _ _) ?_))
    refine (sigsI noB B L ⟨rfl, HL.out.2.1, HL.out.2.2⟩).mono ?_
    rintro e w9 ⟨g0, g1, g2, k0, k1, k2, rfl, hs, hb, hk0, hk1, hk2⟩
    have hlo := HN3.out.lt
    have HZ9 := Lib.hid (HZ3.out.below hb HZ3.out.lt)
    have HB9 := Lib.hid (HB3.out.trans (hb.mono HB3.out.size))
    have HE := Lib.hid (sig_end hs (z := w.heap.size + 1) (by omega) (by omega) HB9.out (.slice (some ⟨g0, 0, none⟩) 8 k0) (.slice (some ⟨g1, 0, none⟩) 8 k1) (.slice (some ⟨g2, 0, none⟩) 8 k2) k0 k1 k2)
    clear hs hb
    have z0 := HZ9.out.cell 0
    have z1 := HZ9.out.cell 1
    have z2 := HZ9.out.cell 2
    have f0 := HZ9.out.frz 0
    have f1 := HZ9.out.frz 1
    have f2 := HZ9.out.frz 2
    have zl := HZ9.out.lt
    simp at z0 z1 z2
    go_wp2_with fail
    exact bodyPost_ret (v := .agg #[.slice (some ⟨g0, 0, none⟩) 8 k0, .slice (some ⟨g1, 0, none⟩) 8 k1, .slice (some ⟨g2, 0, none⟩) 8 k2]) (by simp [results, Try.results42, go_sem, z0, z1, z2]) rfl ⟨_, _, _, _, rfl, by rw [HY.out]; exact HE.out.1, HE.out.2.1, by rw [HY.out]; exact HE.out.2.2.1, HE.out.2.2.2⟩
set_option maxHeartbeats 1000000 in
theorem sigsRunI : GRun 46 := by
  intro w hi x0 x1 x2 D h hs
  have HA := Lib.hid h
  have HSM := Lib.hid hs
  clear hs
  obtain ⟨A0, n0, c0, A1, n1, c1, A2, n2, c2, hcs⟩ := tySigs_sh h
  simp only [List.cons.injEq, and_true] at hcs
  obtain ⟨rfl, rfl, rfl⟩ := hcs
  clear h
  have HB0 := Lib.hid (show Below w.heap.size w ((w.alloc (.cells #[.slice A0 n0 c0, .slice A1 n1 c1, .slice A2 n2 c2] 26)).alloc (.cells #[.slice none 0 0, .slice none 0 0, .slice none 0 0] 26)) from ((Below.refl _ _).alloc (Nat.le_refl _) _).alloc (by simp only [World.size_alloc]; omega) _)
  have HZ0 := Lib.hid (Box.new (w.alloc (.cells #[.slice A0 n0 c0, .slice A1 n1 c1, .slice A2 n2 c2] 26)) #[.slice none 0 0, .slice none 0 0, .slice none 0 0] 26)
  simp only [World.size_alloc] at HZ0
  go_enter Try.func46, Try.ntmps46
  go_wp2_with fail
  refine (stateI (Ty.below_w HA.out HB0.out)).mono ?_
  rintro e w1 ⟨rfl, hb⟩
  have HZ1 := Lib.hid (HZ0.out.below hb HZ0.out.lt)
  have HB1 := Lib.hid (HB0.out.trans (hb.mono HB0.out.size))
  have hgl := HZ1.out.lt
  have HN1 := Lib.hid (Box.new w1 #[.bool false, .bool false, .bool false, .bool false, .bool false, .bool false, .bool false, .bool false, .bool false, .bool false, .bool false, .bool false, .bool false, .bool false, .bool false, .bool false, .int .i64 0, .int .i64 0, .int .i64 0, .int .i64 0, .int .i64 0, .int .i64 0, .int .i64 0, .int .i64 0] 63)
  replace HZ1 := Lib.hid (HZ1.out.alloc (.cells #[.bool false, .bool false, .bool false, .bool false, .bool false, .bool false, .bool false, .bool false, .bool false, .bool false, .bool false, .bool false, .bool false, .bool false, .bool false, .bool false, .int .i64 0, .int .i64 0, .int .i64 0, .int .i64 0, .int .i64 0, .int .i64 0, .int .i64 0, .int .i64 0] 63))
  replace HB1 := Lib.hid (HB1.out.alloc HB1.out.size (.cells #[.bool false, .bool false, .bool false, .bool false, .bool false, .bool false, .bool false, .bool false, .bool false, .bool false, .bool false, .bool false, .bool false, .bool false, .bool false, .bool false, .int .i64 0, .int .i64 0, .int .i64 0, .int .i64 0, .int .i64 0, .int .i64 0, .int .i64 0, .int .i64 0] 63))
  simp only [st_zero] at HN1 HZ1 HB1
  clear hb HZ0 HB0
  cases hc : sigB D
  · have HR := Lib.hid hc
    have HV := Lib.hid (show runS D = sgZ by unfold runS; rw [hc]; rfl)
    rw [stR_no HR.out]
    clear hc
    go_wp2_with (refine wpList_store_box rfl 63 _ _ rfl w1.heap.size 0 (stA noB noB noI) rfl rfl 63 (stA noB noB noI) HN1.out st_size (Nat.le_refl 24) (stA_one _ _ _) (stA noB noB noI) (stA_put _ _ _ _ _ _) ?_
                 intro w2 hb2 hf2
                 have HN2 := Lib.hid hb2
                 have HZ2 := Lib.hid (hf2.box HZ1.out (by rw [List.mem_singleton]; omega))
                 have HB2 := Lib.hid (HB1.out.trans (hf2.below (Nat.le_trans (by omega) (Nat.le_of_lt HN1.out.lt)) (by intro b hb; rw [List.mem_singleton] at hb; omega)))
                 have z0 := HZ2.out.cell 0
                 have z1 := HZ2.out.cell 1
                 have z2 := HZ2.out.cell 2
                 have f0 := HZ2.out.frz 0
                 have f1 := HZ2.out.frz 1
                 have f2 := HZ2.out.frz 2
                 have zl := HZ2.out.lt
                 simp at z0 z1 z2
                 clear hb2 hf2 HN1 HZ1 HB1)
    exact bodyPost_ret (v := .agg #[.slice none 0 0, .slice none 0 0, .slice none 0 0]) (by simp [results, Try.results46, go_sem, z0, z1, z2]) rfl ⟨_, _, _, [], rfl, by rw [HV.out]; exact nilSigs, fun b h => absurd h List.not_mem_nil, by rw [HV.out]; exact nilSmall, ((HB2.out.setCell (p := ⟨w.heap.size + 1, 0, none⟩) (by show w.heap.size ≤ w.heap.size + 1; omega) _).setCell (p := ⟨w.heap.size + 1, 1, none⟩) (by show w.heap.size ≤ w.heap.size + 1; omega) _).setCell (p := ⟨w.heap.size + 1, 2, none⟩) (by show w.heap.size ≤ w.heap.size + 1; omega) _⟩
  · have HR := Lib.hid hc
    have HL := Lib.hid (show D.1.length = 8 ∧ D.2.1.length = 8 ∧ D.2.2.length = 8 from ⟨(sig_len hc).1, (sig_len hc).2.1, (sig_len hc).2.2.1⟩)
    rw [stR_yes HR.out]
    obtain ⟨H, B, L⟩ := D
    dsimp only at HL ⊢
    clear hc
    have HY := Lib.hid (show runS (H, B, L) = (H, B, runTo L 8) from run_yes HR.out)
    go_wp2_with (first
        | (refine wpList_store_box rfl 63 _ _ rfl w1.heap.size 0 (stA H B L) rfl rfl 63 (stA noB noB noI) HN1.out st_size (Nat.le_refl 24) (stA_one _ _ _) (stA H B L) (stA_put _ _ _ _ _ _) ?_; intro w2 hb2 hf2; have HN2 := Lib.hid hb2; have HZ2 := Lib.hid (hf2.box HZ1.out (by rw [List.mem_singleton]; omega)); have HB2 := Lib.hid (HB1.out.trans (hf2.below (Nat.le_trans (by omega) (Nat.le_of_lt HN1.out.lt)) (by intro b hb; rw [List.mem_singleton] at hb; omega))); have z0 := HZ2.out.cell 0; have z1 := HZ2.out.cell 1; have z2 := HZ2.out.cell 2; have f0 := HZ2.out.frz 0; have f1 := HZ2.out.frz 1; have f2 := HZ2.out.frz 2; have zl := HZ2.out.lt; simp at z0 z1 z2; clear hb2 hf2 HN1 HZ1 HB1)
        | (refine wpList_load_box rfl 61 _ rfl w1.heap.size 16 8 rfl 63 (stA H B L) _ HN2.out Try.underlying61 rfl act_size (le24 (by decide)) (iA L) (stA_acts _ _ _) ?_))
    refine (uncaughtI L HL.out.2.2).mono ?_
    rintro e w3 ⟨rfl, hb⟩
    clear z0 z1 z2 f0 f1 f2 zl
    have HN3 := Lib.hid (HN2.out.below hb HN2.out.lt)
    have HZ3 := Lib.hid (HZ2.out.below hb HZ2.out.lt)
    have HB3 := Lib.hid (HB2.out.trans (hb.mono HB2.out.size))
    clear hb
    have HX := Lib.hid (show (runTo L 8).length = 8 from runTo_len.trans HL.out.2.2)
    generalize runTo L 8 = X at HY HX ⊢
    go_wp2_with (first
        | (refine wpList_store_box rfl 61 _ _ rfl w1.heap.size 16 (iA X) rfl rfl 63 (stA H B L) HN3.out act_size (le24 (show 16 + 8 ≤ 24 by decide)) (iA_one _) (stA H B X) (stA_put2 _ _ _ _) ?_; intro w4 hb2 hf2; have HN4 := Lib.hid hb2; have HZ4 := Lib.hid (hf2.box HZ3.out (by rw [List.mem_singleton]; omega)); have HB4 := Lib.hid (HB3.out.trans (hf2.below HB3.out.size (by intro b hb; rw [List.mem_singleton] at hb; omega))); clear hb2 hf2)
        | (refine wpList_load_box rfl 63 _ rfl w1.heap.size 0 24 rfl 63 (stA H B X) _ HN4.out Try.underlying63 rfl st_size (Nat.le_refl 24) (stA H B X) (stA_all _ _ _) ?_))
    refine (sigsI H B X ⟨HL.out.1, HL.out.2.1, HX.out⟩).mono ?_
    rintro e w9 ⟨g0, g1, g2, k0, k1, k2, rfl, hs, hb, hk0, hk1, hk2⟩
    have hlo := HN4.out.lt
    have HZ9 := Lib.hid (HZ4.out.below hb HZ4.out.lt)
    have HB9 := Lib.hid (HB4.out.trans (hb.mono HB4.out.size))
    have HE := Lib.hid (sig_end hs (z := w.heap.size + 1) (by omega) (by omega) HB9.out (.slice (some ⟨g0, 0, none⟩) 8 k0) (.slice (some ⟨g1, 0, none⟩) 8 k1) (.slice (some ⟨g2, 0, none⟩) 8 k2) k0 k1 k2)
    clear hs hb
    have z0 := HZ9.out.cell 0
    have z1 := HZ9.out.cell 1
    have z2 := HZ9.out.cell 2
    have f0 := HZ9.out.frz 0
    have f1 := HZ9.out.frz 1
    have f2 := HZ9.out.frz 2
    have zl := HZ9.out.lt
    simp at z0 z1 z2
    go_wp2_with fail
    exact bodyPost_ret (v := .agg #[.slice (some ⟨g0, 0, none⟩) 8 k0, .slice (some ⟨g1, 0, none⟩) 8 k1, .slice (some ⟨g2, 0, none⟩) 8 k2]) (by simp [results, Try.results46, go_sem, z0, z1, z2]) rfl ⟨_, _, _, _, rfl, by rw [HY.out]; exact HE.out.1, HE.out.2.1, by rw [HY.out]; exact HE.out.2.2.1, HE.out.2.2.2⟩
end
end Go.Proofs.Ytncinocpdeokgaa
