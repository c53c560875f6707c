/-
  The program's SigsSend.
-/
import Derived.Test.YtncinocpdeokgaaGIi
import Derived.Test.YtncinocpdeokgaaReg2
namespace Go.Proofs.Ytncinocpdeokgaa
open Go.RowKit

section
variable {w : World}
set_option maxHeartbeats 1000000 in
theorem sigsSndI : GSnd 37 := by
  intro w hi x0 x1 x2 D n h hs
  have HA := Lib.hid h
  have HSM := Lib.hid hs
  clear hs
  obtain ⟨A0, n0, c0, A1, n1, c1, A2, n2, c2, hcs⟩ := tySigs_sh h
  simp only [List.cons.injEq, and_true] at hcs
  obtain ⟨rfl, rfl, rfl⟩ := hcs
  clear h
  have HB0 := Lib.hid (show Below w.heap.size w ((w.alloc (.cells #[.slice A0 n0 c0, .slice A1 n1 c1, .slice A2 n2 c2] 26)).alloc (.cells #[.slice none 0 0, .slice none 0 0, .slice none 0 0] 26)) from ((Below.refl _ _).alloc (Nat.le_refl _) _).alloc (by simp only [World.size_alloc]; omega) _)
  have HZ0 := Lib.hid (Box.new (w.alloc (.cells #[.slice A0 n0 c0, .slice A1 n1 c1, .slice A2 n2 c2] 26)) #[.slice none 0 0, .slice none 0 0, .slice none 0 0] 26)
  simp only [World.size_alloc] at HZ0
  go_enter Try.func37, Try.ntmps37
  go_wp2_with fail
  refine (stateI (Ty.below_w HA.out HB0.out)).mono ?_
  rintro e w1 ⟨rfl, hb⟩
  have HZ1 := Lib.hid (HZ0.out.below hb HZ0.out.lt)
  have HB1 := Lib.hid (HB0.out.trans (hb.mono HB0.out.size))
  have hgl := HZ1.out.lt
  have HN1 := Lib.hid (Box.new w1 #[.bool false, .bool false, .bool false, .bool false, .bool false, .bool false, .bool false, .bool false, .bool false, .bool false, .bool false, .bool false, .bool false, .bool false, .bool false, .bool false, .int .i64 0, .int .i64 0, .int .i64 0, .int .i64 0, .int .i64 0, .int .i64 0, .int .i64 0, .int .i64 0] 63)
  replace HZ1 := Lib.hid (HZ1.out.alloc (.cells #[.bool false, .bool false, .bool false, .bool false, .bool false, .bool false, .bool false, .bool false, .bool false, .bool false, .bool false, .bool false, .bool false, .bool false, .bool false, .bool false, .int .i64 0, .int .i64 0, .int .i64 0, .int .i64 0, .int .i64 0, .int .i64 0, .int .i64 0, .int .i64 0] 63))
  replace HB1 := Lib.hid (HB1.out.alloc HB1.out.size (.cells #[.bool false, .bool false, .bool false, .bool false, .bool false, .bool false, .bool false, .bool false, .bool false, .bool false, .bool false, .bool false, .bool false, .bool false, .bool false, .bool false, .int .i64 0, .int .i64 0, .int .i64 0, .int .i64 0, .int .i64 0, .int .i64 0, .int .i64 0, .int .i64 0] 63))
  simp only [st_zero] at HN1 HZ1 HB1
  clear hb HZ0 HB0
  cases hc : sigB D
  · have HR := Lib.hid hc
    have HV := Lib.hid (show sndD D n = sgZ by unfold sndD sndB; rw [hc]; rfl)
    rw [stR_no HR.out]
    clear hc
    have HF := Lib.hid (show sndB D n = false by unfold sndB; rw [HR.out]; rfl)
    go_wp2_with (refine wpList_store_box rfl 63 _ _ rfl w1.heap.size 0 (stA noB noB noI) rfl rfl 63 (stA noB noB noI) HN1.out st_size (Nat.le_refl 24) (stA_one _ _ _) (stA noB noB noI) (stA_put _ _ _ _ _ _) ?_
                 intro w2 hb2 hf2
                 have HN2 := Lib.hid hb2
                 have HZ2 := Lib.hid (hf2.box HZ1.out (by rw [List.mem_singleton]; omega))
                 have HB2 := Lib.hid (HB1.out.trans (hf2.below (Nat.le_trans (by omega) (Nat.le_of_lt HN1.out.lt)) (by intro b hb; rw [List.mem_singleton] at hb; omega)))
                 have z0 := HZ2.out.cell 0
                 have z1 := HZ2.out.cell 1
                 have z2 := HZ2.out.cell 2
                 have f0 := HZ2.out.frz 0
                 have f1 := HZ2.out.frz 1
                 have f2 := HZ2.out.frz 2
                 have zl := HZ2.out.lt
                 simp at z0 z1 z2
                 clear hb2 hf2 HN1 HZ1 HB1)
    exact bodyPost_ret (v := .tuple #[.agg #[.slice none 0 0, .slice none 0 0, .slice none 0 0], .bool false]) (by simp [results, Try.results37, go_sem, z0, z1, z2]) rfl ⟨_, _, _, [], by rw [HF.out], by rw [HV.out]; exact nilSigs, fun b h => absurd h List.not_mem_nil, by rw [HV.out]; exact nilSmall, ((HB2.out.setCell (p := ⟨w.heap.size + 1, 0, none⟩) (by show w.heap.size ≤ w.heap.size + 1; omega) _).setCell (p := ⟨w.heap.size + 1, 1, none⟩) (by show w.heap.size ≤ w.heap.size + 1; omega) _).setCell (p := ⟨w.heap.size + 1, 2, none⟩) (by show w.heap.size ≤ w.heap.size + 1; omega) _⟩
  · have HR := Lib.hid hc
    have HL := Lib.hid (show D.1.length = 8 ∧ D.2.1.length = 8 ∧ D.2.2.length = 8 from ⟨(sig_len hc).1, (sig_len hc).2.1, (sig_len hc).2.2.1⟩)
    rw [stR_yes HR.out]
    obtain ⟨H, B, L⟩ := D
    dsimp only at HL ⊢
    clear hc
    have HS := Lib.hid (show sndB (H, B, L) n = inB n 1 8 by unfold sndB; rw [HR.out]; rfl)
    go_wp2_with (first
        | (refine wpList_store_box rfl 63 _ _ rfl w1.heap.size 0 (stA H B L) rfl rfl 63 (stA noB noB noI) HN1.out st_size (Nat.le_refl 24) (stA_one _ _ _) (stA H B L) (stA_put _ _ _ _ _ _) ?_; intro w2 hb2 hf2; have HN2 := Lib.hid hb2; have HZ2 := Lib.hid (hf2.box HZ1.out (by rw [List.mem_singleton]; omega)); have HB2 := Lib.hid (HB1.out.trans (hf2.below (Nat.le_trans (by omega) (Nat.le_of_lt HN1.out.lt)) (by intro b hb; rw [List.mem_singleton] at hb; omega))); have z0 := HZ2.out.cell 0; have z1 := HZ2.out.cell 1; have z2 := HZ2.out.cell 2; have f0 := HZ2.out.frz 0; have f1 := HZ2.out.frz 1; have f2 := HZ2.out.frz 2; have zl := HZ2.out.lt; simp at z0 z1 z2; clear hb2 hf2 HN1 HZ1 HB1))
    refine (sigOkI n _).mono ?_
    rintro e w3 ⟨rfl, rfl⟩
    cases hn : inB n 1 8
    · have HF := Lib.hid (show sndB (H, B, L) n = false by rw [HS.out, hn])
      have HV := Lib.hid (snd_no HF.out)
      clear hn
      go_wp2_with fail
      exact bodyPost_ret (v := .tuple #[.agg #[.slice none 0 0, .slice none 0 0, .slice none 0 0], .bool false]) (by simp [results, Try.results37, go_sem, z0, z1, z2]) rfl ⟨_, _, _, [], by rw [HF.out], by rw [HV.out]; exact nilSigs, fun b h => absurd h List.not_mem_nil, by rw [HV.out]; exact nilSmall, ((HB2.out.setCell (p := ⟨w.heap.size + 1, 0, none⟩) (by show w.heap.size ≤ w.heap.size + 1; omega) _).setCell (p := ⟨w.heap.size + 1, 1, none⟩) (by show w.heap.size ≤ w.heap.size + 1; omega) _).setCell (p := ⟨w.heap.size + 1, 2, none⟩) (by show w.heap.size ≤ w.heap.size + 1; omega) _⟩
    · have HN := Lib.hid hn
      have HF := Lib.hid (show sndB (H, B, L) n = true by rw [HS.out, hn])
      have HY := Lib.hid (snd_yes HF.out)
      have HX := Lib.hid (show (sndA H n).length = 8 from sndA_len.trans HL.out.1)
      have HNO := Lib.hid (show sndH (H, B, L) n = if doesI L n = 1 ∧ B.getD (n - 1).toNat false = false then sndA H n else (sndA H n).set (n - 1).toNat true from rfl)
      clear hn
      go_wp2_with fail
      clear z0 z1 z2 f0 f1 f2 zl
      refine goAny_drew (z := 6) (S := fun w' => Box w' w1.heap.size (stA H B L) 63) (by kernel_rfl) HN2.out (fun hHeld => ?_)
      replace HN2 := Lib.hid (show Box w2.drew w1.heap.size (stA H B L) 63 from HN2.out)
      replace HZ2 := Lib.hid (show Box w2.drew (w.heap.size + 1) #[.slice none 0 0, .slice none 0 0, .slice none 0 0] 26 from HZ2.out)
      replace HB2 := Lib.hid HB2.out.drew
      generalize w2.drew = w2 at hHeld HN2 HZ2 HB2 ⊢
      refine goAny_take (i := 0) (v := ?vd0) (by kernel_rfl) (by kernel_rfl) rfl (by kernel_rfl) (by kernel_rfl) (by kernel_rfl) (fun _ _ _ h => h) (Or.inl ⟨by rfl, ?hyd0⟩) (by assumption) ?restd0
      case hyd0 =>
        intro w hSw
        try dsimp only at hSw
        go_simp
        try with_reducible rfl
      simp only [Act.put, List.setIfInBounds_toArray, List.set_cons_zero, List.set_cons_succ, List.getElem_toArray, List.getElem_cons_zero]
      refine goAny_take (i := 1) (v := (.agg (bA H))) (by kernel_rfl) (by kernel_rfl) rfl (by kernel_rfl) (by kernel_rfl) (by kernel_rfl) (fun _ _ _ h => h) (Or.inl ⟨by rfl, ?hyd1⟩) (by assumption) ?restd1
      case hyd1 =>
        intro w hSw
        refine ex_load (ty := 59) (x := .tmp 21) (g := w1.heap.size) (off := 0) ?ho ?hx (run_load_box _ 59 w1.heap.size 0 8 _ _ _ _ hSw Try.underlying59 rfl set_size (le24 (by decide)) (stA_here H B L))
        case ho => rfl
        case hx => rfl
      simp only [Act.put, List.setIfInBounds_toArray, List.set_cons_zero, List.set_cons_succ, List.getElem_toArray, List.getElem_cons_zero, List.getElem_cons_succ]
      refine goAny_take (i := 2) (v := ?vd2) (by kernel_rfl) (by kernel_rfl) rfl (by kernel_rfl) (by kernel_rfl) (by kernel_rfl) (fun _ _ _ h => h) (Or.inl ⟨by rfl, ?hyd2⟩) (by assumption) ?restd2
      case hyd2 =>
        intro w hSw
        try dsimp only at hSw
        go_simp
        try with_reducible rfl
      simp only [Act.put, List.setIfInBounds_toArray, List.set_cons_zero, List.set_cons_succ, List.getElem_toArray, List.getElem_cons_zero, List.getElem_cons_succ]
      refine goAny_step (i := 3) (by kernel_rfl) rfl (fun K hK => ?_)
      go_simp
      refine (rivalsI n).mono ?_
      rintro e w3 ⟨rfl, hb⟩
      have HN3 := Lib.hid (HN2.out.below hb HN2.out.lt)
      have HZ3 := Lib.hid (HZ2.out.below hb HZ2.out.lt)
      have HB3 := Lib.hid (HB2.out.trans (hb.mono HB2.out.size))
      clear hb
      dsimp only
      refine hK.out _ _ ?_ (fun hHeld => ?_)
      · exact HN3.out
      clear hK K
      try simp only [Act.put, List.setIfInBounds_toArray, List.set_cons_zero, List.set_cons_succ, List.getElem_toArray, List.getElem_cons_zero, List.getElem_cons_succ]
      refine goAny_step (i := 4) (by kernel_rfl) rfl (fun K hK => ?_)
      go_simp
      refine (withoutI H (riv n) HL.out.1).mono ?_
      rintro e w4 ⟨rfl, hb⟩
      rw [sndA_wo HL.out.1]
      have HN4 := Lib.hid (HN3.out.below hb HN3.out.lt)
      have HZ4 := Lib.hid (HZ3.out.below hb HZ3.out.lt)
      have HB4 := Lib.hid (HB3.out.trans (hb.mono HB3.out.size))
      clear hb
      generalize sndA H n = A at HX HY HNO ⊢
      dsimp only
      refine hK.out _ _ ?_ (fun hHeld => ?_)
      · exact HN4.out
      clear hK K
      try simp only [Act.put, List.setIfInBounds_toArray, List.set_cons_zero, List.set_cons_succ, List.getElem_toArray, List.getElem_cons_zero, List.getElem_cons_succ]
      refine goAny_take (i := 5) (v := ?vd5) (by kernel_rfl) (by kernel_rfl) rfl (by kernel_rfl) (by kernel_rfl) (by kernel_rfl) (fun _ _ _ h => h) (Or.inl ⟨by rfl, ?hyd5⟩) (by assumption) ?restd5
      case hyd5 =>
        intro w hSw
        try dsimp only at hSw
        go_simp
        try with_reducible rfl
      simp only [Act.put, List.setIfInBounds_toArray, List.set_cons_zero, List.set_cons_succ, List.getElem_toArray, List.getElem_cons_zero, List.getElem_cons_succ]
      refine goAny_last (by kernel_rfl) (by kernel_rfl) rfl (fun K hK => ?_)
      rw [if_pos (by rfl)]
      refine wp_store_box 59 (.tmp 26) (.tmp 25) rfl w1.heap.size 0 (bA A) rfl rfl 63 (stA H B L) HN4.out set_size (le24 (show 0 + 8 ≤ 24 by decide)) (bA_one _) (stA A B L) (stA_put0 _ _ _ _) (fun w5 hb2 hf2 => ?_)
      have HN5 := Lib.hid hb2
      have HZ5 := Lib.hid (hf2.box HZ4.out (by rw [List.mem_singleton]; omega))
      have HB5 := Lib.hid (HB4.out.trans (hf2.below HB4.out.size (by intro b hb; rw [List.mem_singleton] at hb; omega)))
      clear hb2 hf2
      refine hK.out _ _ ?_
      clear hK K
      go_wp2_with (first
          | (refine wpList_load_box rfl 61 _ rfl w1.heap.size 16 8 rfl 63 (stA A B L) _ HN5.out Try.underlying61 rfl act_size (le24 (by decide)) (iA L) (stA_acts _ _ _) ?_))
      refine (ofI L n HN.out).mono ?_
      rintro e w6 ⟨rfl, hb⟩
      have HN6 := Lib.hid (HN5.out.below hb HN5.out.lt)
      have HZ6 := Lib.hid (HZ5.out.below hb HZ5.out.lt)
      have HB6 := Lib.hid (HB5.out.trans (hb.mono HB5.out.size))
      clear hb
      by_cases hd : doesI L n = 1
      · have HD := Lib.hid hd
        rw [hd]
        clear hd
        go_wp2_with (first
            | (refine wpList_load_boxg rfl 59 _ rfl w1.heap.size 8 8 rfl 63 (stA A B L) _ HN6.out Try.underlying59 rfl set_size (le24 (by decide)) (bA B) (stA_block _ _ _) ?_))
        refine (hasI B n HN.out).mono ?_
        rintro e w7 ⟨rfl, hb⟩
        have HN7 := Lib.hid (HN6.out.below hb HN6.out.lt)
        have HZ7 := Lib.hid (HZ6.out.below hb HZ6.out.lt)
        have HB7 := Lib.hid (HB6.out.trans (hb.mono HB6.out.size))
        clear hb
        cases hbk : B.getD (n - 1).toNat false
        · have HW := Lib.hid (show sndH (H, B, L) n = A by rw [HNO.out, if_pos ⟨HD.out, hbk⟩])
          clear hbk
          go_wp2_with (first
              | (refine wpList_load_box rfl 63 _ rfl w1.heap.size 0 24 rfl 63 (stA A B L) _ HN7.out Try.underlying63 rfl st_size (Nat.le_refl 24) (stA A B L) (stA_all _ _ _) ?_))
          refine (sigsI A B L ⟨HX.out, HL.out.2.1, HL.out.2.2⟩).mono ?_
          rintro e w9 ⟨g0, g1, g2, k0, k1, k2, rfl, hs, hb, hk0, hk1, hk2⟩
          have hlo := HN7.out.lt
          have HZ9 := Lib.hid (HZ7.out.below hb HZ7.out.lt)
          have HB9 := Lib.hid (HB7.out.trans (hb.mono HB7.out.size))
          have HE := Lib.hid (sig_end hs (z := w.heap.size + 1) (by omega) (by omega) HB9.out (.slice (some ⟨g0, 0, none⟩) 8 k0) (.slice (some ⟨g1, 0, none⟩) 8 k1) (.slice (some ⟨g2, 0, none⟩) 8 k2) k0 k1 k2)
          clear hs hb
          have z0 := HZ9.out.cell 0
          have z1 := HZ9.out.cell 1
          have z2 := HZ9.out.cell 2
          have f0 := HZ9.out.frz 0
          have f1 := HZ9.out.frz 1
          have f2 := HZ9.out.frz 2
          have zl := HZ9.out.lt
          simp at z0 z1 z2
          go_wp2_with fail
          exact bodyPost_ret (v := .tuple #[.agg #[.slice (some ⟨g0, 0, none⟩) 8 k0, .slice (some ⟨g1, 0, none⟩) 8 k1, .slice (some ⟨g2, 0, none⟩) 8 k2], .bool true]) (by simp [results, Try.results37, go_sem, z0, z1, z2]) rfl ⟨_, _, _, _, by rw [HF.out], by rw [HY.out, HW.out]; exact HE.out.1, HE.out.2.1, by rw [HY.out, HW.out]; exact HE.out.2.2.1, HE.out.2.2.2⟩
        · have HW := Lib.hid (show sndH (H, B, L) n = A.set (n - 1).toNat true by rw [HNO.out, if_neg (by rw [hbk]; simp)])
          clear hbk
          go_wp2_with (first
              | (refine wpList_load_box rfl 59 _ rfl w1.heap.size 0 8 rfl 63 (stA A B L) _ HN7.out Try.underlying59 rfl set_size (le24 (by decide)) (bA A) (stA_here _ _ _) ?_))
          refine (withI A n HN.out HX.out).mono ?_
          rintro e w8 ⟨rfl, hb⟩
          have HN8 := Lib.hid (HN7.out.below hb HN7.out.lt)
          have HZ8 := Lib.hid (HZ7.out.below hb HZ7.out.lt)
          have HB8 := Lib.hid (HB7.out.trans (hb.mono HB7.out.size))
          clear hb
          have HX2 := Lib.hid (show (A.set (n - 1).toNat true).length = 8 by rw [List.length_set]; exact HX.out)
          generalize A.set (n - 1).toNat true = A2 at HW HX2 ⊢
          go_wp2_with (first
              | (refine wpList_store_box rfl 59 _ _ rfl w1.heap.size 0 (bA A2) rfl rfl 63 (stA A B L) HN8.out set_size (le24 (show 0 + 8 ≤ 24 by decide)) (bA_one _) (stA A2 B L) (stA_put0 _ _ _ _) ?_; intro w9 hb2 hf2; have HN9 := Lib.hid hb2; have HZ9 := Lib.hid (hf2.box HZ8.out (by rw [List.mem_singleton]; omega)); have HB9 := Lib.hid (HB8.out.trans (hf2.below HB8.out.size (by intro b hb; rw [List.mem_singleton] at hb; omega))); clear hb2 hf2)
              | (refine wpList_load_box rfl 63 _ rfl w1.heap.size 0 24 rfl 63 (stA A2 B L) _ HN9.out Try.underlying63 rfl st_size (Nat.le_refl 24) (stA A2 B L) (stA_all _ _ _) ?_))
          refine (sigsI A2 B L ⟨HX2.out, HL.out.2.1, HL.out.2.2⟩).mono ?_
          rintro e w9 ⟨g0, g1, g2, k0, k1, k2, rfl, hs, hb, hk0, hk1, hk2⟩
          have hlo := HN9.out.lt
          have HZ9 := Lib.hid (HZ9.out.below hb HZ9.out.lt)
          have HB9 := Lib.hid (HB9.out.trans (hb.mono HB9.out.size))
          have HE := Lib.hid (sig_end hs (z := w.heap.size + 1) (by omega) (by omega) HB9.out (.slice (some ⟨g0, 0, none⟩) 8 k0) (.slice (some ⟨g1, 0, none⟩) 8 k1) (.slice (some ⟨g2, 0, none⟩) 8 k2) k0 k1 k2)
          clear hs hb
          have z0 := HZ9.out.cell 0
          have z1 := HZ9.out.cell 1
          have z2 := HZ9.out.cell 2
          have f0 := HZ9.out.frz 0
          have f1 := HZ9.out.frz 1
          have f2 := HZ9.out.frz 2
          have zl := HZ9.out.lt
          simp at z0 z1 z2
          go_wp2_with fail
          exact bodyPost_ret (v := .tuple #[.agg #[.slice (some ⟨g0, 0, none⟩) 8 k0, .slice (some ⟨g1, 0, none⟩) 8 k1, .slice (some ⟨g2, 0, none⟩) 8 k2], .bool true]) (by simp [results, Try.results37, go_sem, z0, z1, z2]) rfl ⟨_, _, _, _, by rw [HF.out], by rw [HY.out, HW.out]; exact HE.out.1, HE.out.2.1, by rw [HY.out, HW.out]; exact HE.out.2.2.1, HE.out.2.2.2⟩
      · have HW := Lib.hid (show sndH (H, B, L) n = A.set (n - 1).toNat true by rw [HNO.out, if_neg (fun h => hd h.1)])
        have hd2 : (doesI L n != 1) = true := by simpa using hd
        generalize doesI L n = dd at hd2 ⊢
        clear hd
        go_wp2_with (first
            | (refine wpList_load_box rfl 59 _ rfl w1.heap.size 0 8 rfl 63 (stA A B L) _ HN6.out Try.underlying59 rfl set_size (le24 (by decide)) (bA A) (stA_here _ _ _) ?_))
        refine (withI A n HN.out HX.out).mono ?_
        rintro e w7 ⟨rfl, hb⟩
        have HN7 := Lib.hid (HN6.out.below hb HN6.out.lt)
        have HZ7 := Lib.hid (HZ6.out.below hb HZ6.out.lt)
        have HB7 := Lib.hid (HB6.out.trans (hb.mono HB6.out.size))
        clear hb
        have HX2 := Lib.hid (show (A.set (n - 1).toNat true).length = 8 by rw [List.length_set]; exact HX.out)
        generalize A.set (n - 1).toNat true = A2 at HW HX2 ⊢
        go_wp2_with (first
            | (refine wpList_store_box rfl 59 _ _ rfl w1.heap.size 0 (bA A2) rfl rfl 63 (stA A B L) HN7.out set_size (le24 (show 0 + 8 ≤ 24 by decide)) (bA_one _) (stA A2 B L) (stA_put0 _ _ _ _) ?_; intro w8 hb2 hf2; have HN8 := Lib.hid hb2; have HZ8 := Lib.hid (hf2.box HZ7.out (by rw [List.mem_singleton]; omega)); have HB8 := Lib.hid (HB7.out.trans (hf2.below HB7.out.size (by intro b hb; rw [List.mem_singleton] at hb; omega))); clear hb2 hf2)
            | (refine wpList_load_box rfl 63 _ rfl w1.heap.size 0 24 rfl 63 (stA A2 B L) _ HN8.out Try.underlying63 rfl st_size (Nat.le_refl 24) (stA A2 B L) (stA_all _ _ _) ?_))
        refine (sigsI A2 B L ⟨HX2.out, HL.out.2.1, HL.out.2.2⟩).mono ?_
        rintro e w9 ⟨g0, g1, g2, k0, k1, k2, rfl, hs, hb, hk0, hk1, hk2⟩
        have hlo := HN8.out.lt
        have HZ9 := Lib.hid (HZ8.out.below hb HZ8.out.lt)
        have HB9 := Lib.hid (HB8.out.trans (hb.mono HB8.out.size))
        have HE := Lib.hid (sig_end hs (z := w.heap.size + 1) (by omega) (by omega) HB9.out (.slice (some ⟨g0, 0, none⟩) 8 k0) (.slice (some ⟨g1, 0, none⟩) 8 k1) (.slice (some ⟨g2, 0, none⟩) 8 k2) k0 k1 k2)
        clear hs hb
        have z0 := HZ9.out.cell 0
        have z1 := HZ9.out.cell 1
        have z2 := HZ9.out.cell 2
        have f0 := HZ9.out.frz 0
        have f1 := HZ9.out.frz 1
        have f2 := HZ9.out.frz 2
        have zl := HZ9.out.lt
        simp at z0 z1 z2
        go_wp2_with fail
        exact bodyPost_ret (v := .tuple #[.agg #[.slice (some ⟨g0, 0, none⟩) 8 k0, .slice (some ⟨g1, 0, none⟩) 8 k1, .slice (some ⟨g2, 0, none⟩) 8 k2], .bool true]) (by simp [results, Try.results37, go_sem, z0, z1, z2]) rfl ⟨_, _, _, _, by rw [HF.out], by rw [HY.out, HW.out]; exact HE.out.1, HE.out.2.1, by rw [HY.out, HW.out]; exact HE.out.2.2.1, HE.out.2.2.2⟩
end
end Go.Proofs.Ytncinocpdeokgaa
