/-
  The program's SigsNext.
-/
import Derived.Test.YtncinocpdeokgaaGIi
import Derived.Test.YtncinocpdeokgaaReg2
namespace Go.Proofs.Ytncinocpdeokgaa
open Go.RowKit

section
variable {w : World}
theorem in_one {n : Int} (h : inB n 1 8 = true) : ∀ k, k < 1 → inB ([n].getD k 0) 1 8 = true := fun k hk => by
  obtain rfl : k = 0 := by omega
  exact h
theorem bA_all (L : List Bool) : (bA L).extract 0 (0 + 8) = bA L := by kernel_rfl
theorem bA_zero : #[.bool false, .bool false, .bool false, .bool false, .bool false, .bool false, .bool false, .bool false] = bA noB := rfl
theorem bA_put (X Y : List Bool) : ((bA Y).toList.take 0 ++ (bA X).toList ++ (bA Y).toList.drop (0 + (bA X).size)).toArray = bA X := by kernel_rfl
set_option maxHeartbeats 2000000 in
theorem sigsNxtI : GNxt 23 := by
  intro w hi x0 x1 x2 D h hs
  have HA := Lib.hid h
  have HSM := Lib.hid hs
  clear hs
  obtain ⟨A0, n0, c0, A1, n1, c1, A2, n2, c2, hcs⟩ := tySigs_sh h
  simp only [List.cons.injEq, and_true] at hcs
  obtain ⟨rfl, rfl, rfl⟩ := hcs
  clear h
  have HB0 := Lib.hid (show Below w.heap.size w ((w.alloc (.cells #[.slice A0 n0 c0, .slice A1 n1 c1, .slice A2 n2 c2] 26)).alloc (.cells #[.slice none 0 0, .slice none 0 0, .slice none 0 0] 26)) from ((Below.refl _ _).alloc (Nat.le_refl _) _).alloc (by simp only [World.size_alloc]; omega) _)
  have HZ0 := Lib.hid (Box.new (w.alloc (.cells #[.slice A0 n0 c0, .slice A1 n1 c1, .slice A2 n2 c2] 26)) #[.slice none 0 0, .slice none 0 0, .slice none 0 0] 26)
  simp only [World.size_alloc] at HZ0
  go_enter Try.func23, Try.ntmps23
  go_wp2_with fail
  refine (stateI (Ty.below_w HA.out HB0.out)).mono ?_
  rintro e w1 ⟨rfl, hb⟩
  have HZ1 := Lib.hid (HZ0.out.below hb HZ0.out.lt)
  have HB1 := Lib.hid (HB0.out.trans (hb.mono HB0.out.size))
  have hgl := HZ1.out.lt
  have HN1 := Lib.hid (Box.new w1 #[.bool false, .bool false, .bool false, .bool false, .bool false, .bool false, .bool false, .bool false, .bool false, .bool false, .bool false, .bool false, .bool false, .bool false, .bool false, .bool false, .int .i64 0, .int .i64 0, .int .i64 0, .int .i64 0, .int .i64 0, .int .i64 0, .int .i64 0, .int .i64 0] 63)
  replace HZ1 := Lib.hid (HZ1.out.alloc (.cells #[.bool false, .bool false, .bool false, .bool false, .bool false, .bool false, .bool false, .bool false, .bool false, .bool false, .bool false, .bool false, .bool false, .bool false, .bool false, .bool false, .int .i64 0, .int .i64 0, .int .i64 0, .int .i64 0, .int .i64 0, .int .i64 0, .int .i64 0, .int .i64 0] 63))
  replace HB1 := Lib.hid (HB1.out.alloc HB1.out.size (.cells #[.bool false, .bool false, .bool false, .bool false, .bool false, .bool false, .bool false, .bool false, .bool false, .bool false, .bool false, .bool false, .bool false, .bool false, .bool false, .bool false, .int .i64 0, .int .i64 0, .int .i64 0, .int .i64 0, .int .i64 0, .int .i64 0, .int .i64 0, .int .i64 0] 63))
  simp only [st_zero] at HN1 HZ1 HB1
  clear hb HZ0 HB0
  cases hc : sigB D
  · have HR := Lib.hid hc
    have HV := Lib.hid (show nxtD D = sgZ by unfold nxtD; rw [hc]; rfl)
    rw [stR_no HR.out]
    clear hc
    have HF0 := Lib.hid (show nxtN D = 0 by unfold nxtN; rw [HR.out]; rfl)
    have HF1 := Lib.hid (show nxtX D = 1 by unfold nxtX; rw [HF0.out]; rfl)
    have HF2 := Lib.hid (show nxtB D = false by unfold nxtB; rw [HF0.out]; rfl)
    go_wp2_with (refine wpList_store_box rfl 63 _ _ rfl w1.heap.size 0 (stA noB noB noI) rfl rfl 63 (stA noB noB noI) HN1.out st_size (Nat.le_refl 24) (stA_one _ _ _) (stA noB noB noI) (stA_put _ _ _ _ _ _) ?_
                 intro w2 hb2 hf2
                 have HN2 := Lib.hid hb2
                 have HZ2 := Lib.hid (hf2.box HZ1.out (by rw [List.mem_singleton]; omega))
                 have HB2 := Lib.hid (HB1.out.trans (hf2.below (Nat.le_trans (by omega) (Nat.le_of_lt HN1.out.lt)) (by intro b hb; rw [List.mem_singleton] at hb; omega)))
                 have z0 := HZ2.out.cell 0
                 have z1 := HZ2.out.cell 1
                 have z2 := HZ2.out.cell 2
                 have f0 := HZ2.out.frz 0
                 have f1 := HZ2.out.frz 1
                 have f2 := HZ2.out.frz 2
                 have zl := HZ2.out.lt
                 simp at z0 z1 z2
                 clear hb2 hf2 HN1 HZ1 HB1)
    exact bodyPost_ret (v := .tuple #[.agg #[.slice none 0 0, .slice none 0 0, .slice none 0 0], .int .i64 0, .int .i64 1, .bool false]) (by simp [results, Try.results23, go_sem, z0, z1, z2]) rfl ⟨_, _, _, [], by rw [HF0.out, HF1.out, HF2.out], by rw [HV.out]; exact nilSigs, fun b h => absurd h List.not_mem_nil, by rw [HV.out]; exact nilSmall, ((HB2.out.setCell (p := ⟨w.heap.size + 1, 0, none⟩) (by show w.heap.size ≤ w.heap.size + 1; omega) _).setCell (p := ⟨w.heap.size + 1, 1, none⟩) (by show w.heap.size ≤ w.heap.size + 1; omega) _).setCell (p := ⟨w.heap.size + 1, 2, none⟩) (by show w.heap.size ≤ w.heap.size + 1; omega) _⟩
  · have HR := Lib.hid hc
    have HL := Lib.hid (show D.1.length = 8 ∧ D.2.1.length = 8 ∧ D.2.2.length = 8 from ⟨(sig_len hc).1, (sig_len hc).2.1, (sig_len hc).2.2.1⟩)
    rw [stR_yes HR.out]
    obtain ⟨H, B, L⟩ := D
    dsimp only at HL ⊢
    clear hc
    have HNN := Lib.hid (nxt_yes HR.out)
    go_wp2_with (first
        | (refine wpList_store_box rfl 63 _ _ rfl w1.heap.size 0 (stA H B L) rfl rfl 63 (stA noB noB noI) HN1.out st_size (Nat.le_refl 24) (stA_one _ _ _) (stA H B L) (stA_put _ _ _ _ _ _) ?_; intro w2 hb2 hf2; have HN2 := Lib.hid hb2; have HZ2 := Lib.hid (hf2.box HZ1.out (by rw [List.mem_singleton]; omega)); have HB2 := Lib.hid (HB1.out.trans (hf2.below (Nat.le_trans (by omega) (Nat.le_of_lt HN1.out.lt)) (by intro b hb; rw [List.mem_singleton] at hb; omega))); have z0 := HZ2.out.cell 0; have z1 := HZ2.out.cell 1; have z2 := HZ2.out.cell 2; have f0 := HZ2.out.frz 0; have f1 := HZ2.out.frz 1; have f2 := HZ2.out.frz 2; have zl := HZ2.out.lt; simp at z0 z1 z2; clear hb2 hf2 HN1 HZ1 HB1)
        | (refine wpList_load_box rfl 59 _ rfl w1.heap.size 0 8 rfl 63 (stA H B L) _ HN2.out Try.underlying59 rfl set_size (le24 (by decide)) (bA H) (stA_here _ _ _) ?_)
        | (refine wpList_load_box rfl 59 _ rfl w1.heap.size 8 8 rfl 63 (stA H B L) _ HN2.out Try.underlying59 rfl set_size (le24 (by decide)) (bA B) (stA_block _ _ _) ?_))
    refine (withoutI H B HL.out.1).mono ?_
    rintro e w3 ⟨rfl, hb⟩
    clear z0 z1 z2 f0 f1 f2 zl
    have HN3 := Lib.hid (HN2.out.below hb HN2.out.lt)
    have HZ3 := Lib.hid (HZ2.out.below hb HZ2.out.lt)
    have HB3 := Lib.hid (HB2.out.trans (hb.mono HB2.out.size))
    clear hb
    have hn3 := HN3.out.lt
    have hz3 := HZ3.out.lt
    have hb3 := HB3.out.size
    have HO3 := Lib.hid (Box.new w3 #[.bool false, .bool false, .bool false, .bool false, .bool false, .bool false, .bool false, .bool false] 59)
    replace HN3 := Lib.hid (HN3.out.alloc (.cells #[.bool false, .bool false, .bool false, .bool false, .bool false, .bool false, .bool false, .bool false] 59))
    replace HZ3 := Lib.hid (HZ3.out.alloc (.cells #[.bool false, .bool false, .bool false, .bool false, .bool false, .bool false, .bool false, .bool false] 59))
    replace HB3 := Lib.hid (HB3.out.alloc HB3.out.size (.cells #[.bool false, .bool false, .bool false, .bool false, .bool false, .bool false, .bool false, .bool false] 59))
    simp only [bA_zero] at HO3 HN3 HZ3 HB3
    have HXL := Lib.hid (show (wo H B).length = 8 from wo_len.trans HL.out.1)
    have HXN := Lib.hid (fun h => open_none (H := H) (B := B) HL.out.1 h)
    have HXK := Lib.hid (fun (k : Nat) (hk : k < 8) h1 h2 => open_is (H := H) (B := B) (k := k) HL.out.1 hk h1 h2)
    generalize wo H B = X at HXL HXN HXK ⊢
    have hq := fun w => eqlA X noB HXL.out rfl w
    have hgd : ∀ (w : World) (x y : Operand), (eqGuard .eql 59 x y (.agg (bA X)) (.agg (bA noB))).run Try.prog w = .ok () w := fun w x y => run_eqGuard_agg w _ _ _ _ _ _ set_guard
    simp only [← bA_zero] at hq hgd
    rcases fst_or (L := X) 8 with hno | ⟨k, hk, h1, h2⟩
    · have HI := Lib.hid (HXN.out hno)
      rw [decide_eq_true ((eq_noB HXL.out).2 hno)] at hq
      have HF0 := Lib.hid (show nxtN (H, B, L) = 0 by rw [HNN.out]; exact HI.out)
      have HF1 := Lib.hid (show nxtX (H, B, L) = 1 by unfold nxtX; rw [HF0.out]; rfl)
      have HF2 := Lib.hid (show nxtB (H, B, L) = false by unfold nxtB; rw [HF0.out]; rfl)
      have HY := Lib.hid (show nxtD (H, B, L) = (H, B, L) by unfold nxtD; rw [if_pos HR.out, if_pos HI.out])
      clear hno
      go_wp2_with (first
          | (refine wpList_store_box rfl 59 _ _ rfl w3.heap.size 0 (bA X) rfl rfl 59 (bA noB) HO3.out set_size (Nat.le_refl 8) (bA_one _) (bA X) (bA_put _ _) ?_; intro w4 hb2 hf2; have HO4 := Lib.hid hb2; have HN4 := Lib.hid (hf2.box HN3.out (by rw [List.mem_singleton]; omega)); have HZ4 := Lib.hid (hf2.box HZ3.out (by rw [List.mem_singleton]; omega)); have HB4 := Lib.hid (HB3.out.trans (hf2.below HB3.out.size (by intro b hb; rw [List.mem_singleton] at hb; omega))); clear hb2 hf2)
          | (refine wpList_load_box rfl 59 _ rfl w3.heap.size 0 8 rfl 59 (bA X) _ HO4.out Try.underlying59 rfl set_size (Nat.le_refl 8) (bA X) (bA_all _) ?_)
          | (refine wpList_load_box rfl 63 _ rfl w1.heap.size 0 24 rfl 63 (stA H B L) _ HN4.out Try.underlying63 rfl st_size (Nat.le_refl 24) (stA H B L) (stA_all _ _ _) ?_))
      refine (sigsI H B L HL.out).mono ?_
      rintro e w9 ⟨g0, g1, g2, k0, k1, k2, rfl, hs, hb, hk0, hk1, hk2⟩
      have hlo := HN4.out.lt
      have HZ9 := Lib.hid (HZ4.out.below hb HZ4.out.lt)
      have HB9 := Lib.hid (HB4.out.trans (hb.mono HB4.out.size))
      have HE := Lib.hid (sig_end hs (z := w.heap.size + 1) (by omega) (by omega) HB9.out (.slice (some ⟨g0, 0, none⟩) 8 k0) (.slice (some ⟨g1, 0, none⟩) 8 k1) (.slice (some ⟨g2, 0, none⟩) 8 k2) k0 k1 k2)
      clear hs hb
      have z0 := HZ9.out.cell 0
      have z1 := HZ9.out.cell 1
      have z2 := HZ9.out.cell 2
      have f0 := HZ9.out.frz 0
      have f1 := HZ9.out.frz 1
      have f2 := HZ9.out.frz 2
      have zl := HZ9.out.lt
      simp at z0 z1 z2
      go_wp2_with fail
      exact bodyPost_ret (v := .tuple #[.agg #[.slice (some ⟨g0, 0, none⟩) 8 k0, .slice (some ⟨g1, 0, none⟩) 8 k1, .slice (some ⟨g2, 0, none⟩) 8 k2], .int .i64 0, .int .i64 1, .bool false]) (by simp [results, Try.results23, go_sem, z0, z1, z2]) rfl ⟨_, _, _, _, by rw [HF0.out, HF1.out, HF2.out], by rw [HY.out]; exact HE.out.1, HE.out.2.1, by rw [HY.out]; exact HE.out.2.2.1, HE.out.2.2.2⟩
    · have HI := Lib.hid (HXK.out k hk h1 h2)
      have hne : ¬ X = noB := fun e => by have := (eq_noB HXL.out).1 e k hk; rw [h1] at this; cases this
      rw [decide_eq_false hne] at hq
      have HEK := Lib.hid (show ((k : Int) + 1 - 1).toNat = k by omega)
      have HIN := Lib.hid (show inB ((k : Int) + 1) 1 8 = true from inB_of (by omega))
      have HF0 := Lib.hid (show nxtN (H, B, L) = (k : Int) + 1 by rw [HNN.out]; exact HI.out)
      have hk1 : ¬ ((k : Int) + 1 = 0) := by omega
      have HF1 := Lib.hid (show nxtX (H, B, L) = doesI L ((k : Int) + 1) by unfold nxtX; rw [HF0.out, if_neg hk1])
      have HF2 := Lib.hid (show nxtB (H, B, L) = true by unfold nxtB; rw [HF0.out, decide_eq_false hk1]; rfl)
      have HY := Lib.hid (show nxtD (H, B, L) = (H.set k false, B, L) by unfold nxtD; rw [if_pos HR.out, if_neg (by rw [HI.out]; exact hk1), HI.out, HEK.out])
      have HAL := Lib.hid (show (H.set k false).length = 8 by rw [List.length_set]; exact HL.out.1)
      have HH1 := Lib.hid h1
      have HH2 := Lib.hid h2
      clear hne hk1 h1 h2
      go_wp2_with (first
          | (refine wpList_store_box rfl 59 _ _ rfl w3.heap.size 0 (bA X) rfl rfl 59 (bA noB) HO3.out set_size (Nat.le_refl 8) (bA_one _) (bA X) (bA_put _ _) ?_; intro w4 hb2 hf2; have HO4 := Lib.hid hb2; have HN4 := Lib.hid (hf2.box HN3.out (by rw [List.mem_singleton]; omega)); have HZ4 := Lib.hid (hf2.box HZ3.out (by rw [List.mem_singleton]; omega)); have HB4 := Lib.hid (HB3.out.trans (hf2.below HB3.out.size (by intro b hb; rw [List.mem_singleton] at hb; omega))); clear hb2 hf2)
          | (refine wpList_load_box rfl 59 _ rfl w3.heap.size 0 8 rfl 59 (bA X) _ HO4.out Try.underlying59 rfl set_size (Nat.le_refl 8) (bA X) (bA_all _) ?_))
      refine (firstI hk HH1.out HH2.out).mono ?_
      rintro e w5 ⟨rfl, hb⟩
      have HN5 := Lib.hid (HN4.out.below hb HN4.out.lt)
      have HZ5 := Lib.hid (HZ4.out.below hb HZ4.out.lt)
      have HB5 := Lib.hid (HB4.out.trans (hb.mono HB4.out.size))
      clear hb
      go_wp2_with fail
      refine goAny_drew (z := 7) (S := fun w' => Box w' w1.heap.size (stA H B L) 63) (by kernel_rfl) HN5.out (fun hHeld => ?_)
      replace HN5 := Lib.hid (show Box w5.drew w1.heap.size (stA H B L) 63 from HN5.out)
      replace HZ5 := Lib.hid (show Box w5.drew (w.heap.size + 1) #[.slice none 0 0, .slice none 0 0, .slice none 0 0] 26 from HZ5.out)
      replace HB5 := Lib.hid HB5.out.drew
      generalize w5.drew = w5 at hHeld HN5 HZ5 HB5 ⊢
      refine goAny_take (i := 0) (v := ?vd0) (by kernel_rfl) (by kernel_rfl) rfl (by kernel_rfl) (by kernel_rfl) (by kernel_rfl) (fun _ _ _ h => h) (Or.inl ⟨by rfl, ?hyd0⟩) (by assumption) ?restd0
      case hyd0 =>
        intro w hSw
        try dsimp only at hSw
        go_simp
        try with_reducible rfl
      simp only [Act.put, List.setIfInBounds_toArray, List.set_cons_zero, List.set_cons_succ, List.getElem_toArray, List.getElem_cons_zero]
      refine goAny_take (i := 1) (v := (.agg (bA H))) (by kernel_rfl) (by kernel_rfl) rfl (by kernel_rfl) (by kernel_rfl) (by kernel_rfl) (fun _ _ _ h => h) (Or.inl ⟨by rfl, ?hyd1⟩) (by assumption) ?restd1
      case hyd1 =>
        intro w hSw
        refine ex_load (ty := 59) (x := .tmp 30) (g := w1.heap.size) (off := 0) ?ho ?hx (run_load_box _ 59 w1.heap.size 0 8 _ _ _ _ hSw Try.underlying59 rfl set_size (le24 (by decide)) (stA_here H B L))
        case ho => rfl
        case hx => rfl
      simp only [Act.put, List.setIfInBounds_toArray, List.set_cons_zero, List.set_cons_succ, List.getElem_toArray, List.getElem_cons_zero, List.getElem_cons_succ]
      refine goAny_take (i := 2) (v := ?vd2) (by kernel_rfl) (by kernel_rfl) rfl (by kernel_rfl) (by kernel_rfl) (by kernel_rfl) (fun _ _ _ h => h) (Or.inl ⟨by rfl, ?hyd2⟩) (by assumption) ?restd2
      case hyd2 =>
        intro w hSw
        try dsimp only at hSw
        go_simp
        try with_reducible rfl
      simp only [Act.put, List.setIfInBounds_toArray, List.set_cons_zero, List.set_cons_succ, List.getElem_toArray, List.getElem_cons_zero, List.getElem_cons_succ]
      refine goAny_step (i := 3) (by kernel_rfl) rfl (fun K hK => ?_)
      go_simp
      have HD := Lib.hid (Box.new w5 #[.int .i64 ((k : Int) + 1)] 3)
      have HN6 := Lib.hid (HN5.out.alloc (.cells #[.int .i64 ((k : Int) + 1)] 3))
      have HZ6 := Lib.hid (HZ5.out.alloc (.cells #[.int .i64 ((k : Int) + 1)] 3))
      have HB6 := Lib.hid (HB5.out.alloc HB5.out.size (.cells #[.int .i64 ((k : Int) + 1)] 3))
      generalize hg5 : w5.heap.size = g5 at HD ⊢
      generalize (w5.alloc (.cells #[.int .i64 ((k : Int) + 1)] 3)) = w6 at HD HN6 HZ6 HB6 ⊢
      refine hK.out _ _ ?_ (fun hHeld => ?_)
      · exact HN6.out
      clear hK K
      try simp only [Act.put, List.setIfInBounds_toArray, List.set_cons_zero, List.set_cons_succ, List.getElem_toArray, List.getElem_cons_zero, List.getElem_cons_succ]
      refine goAny_step (i := 4) (by kernel_rfl) rfl (fun K hK => ?_)
      go_simp
      refine (setOfI [(k : Int) + 1] 1 (litI HD.out 1 rfl rfl) (by decide) (in_one HIN.out)).mono ?_
      rintro e w7 ⟨rfl, hb⟩
      have HN7 := Lib.hid (HN6.out.below hb HN6.out.lt)
      have HZ7 := Lib.hid (HZ6.out.below hb HZ6.out.lt)
      have HB7 := Lib.hid (HB6.out.trans (hb.mono HB6.out.size))
      clear hb
      dsimp only
      refine hK.out _ _ ?_ (fun hHeld => ?_)
      · exact HN7.out
      clear hK K
      try simp only [Act.put, List.setIfInBounds_toArray, List.set_cons_zero, List.set_cons_succ, List.getElem_toArray, List.getElem_cons_zero, List.getElem_cons_succ]
      refine goAny_step (i := 5) (by kernel_rfl) rfl (fun K hK => ?_)
      go_simp
      refine (withoutI H (one ((k : Int) + 1)) HL.out.1).mono ?_
      rintro e w8 ⟨rfl, hb⟩
      rw [take_wo HL.out.1 hk HEK.out]
      have HN8 := Lib.hid (HN7.out.below hb HN7.out.lt)
      have HZ8 := Lib.hid (HZ7.out.below hb HZ7.out.lt)
      have HB8 := Lib.hid (HB7.out.trans (hb.mono HB7.out.size))
      clear hb
      generalize H.set k false = A at HAL HY ⊢
      dsimp only
      refine hK.out _ _ ?_ (fun hHeld => ?_)
      · exact HN8.out
      clear hK K
      try simp only [Act.put, List.setIfInBounds_toArray, List.set_cons_zero, List.set_cons_succ, List.getElem_toArray, List.getElem_cons_zero, List.getElem_cons_succ]
      refine goAny_take (i := 6) (v := ?vd6) (by kernel_rfl) (by kernel_rfl) rfl (by kernel_rfl) (by kernel_rfl) (by kernel_rfl) (fun _ _ _ h => h) (Or.inl ⟨by rfl, ?hyd6⟩) (by assumption) ?restd6
      case hyd6 =>
        intro w hSw
        try dsimp only at hSw
        go_simp
        try with_reducible rfl
      simp only [Act.put, List.setIfInBounds_toArray, List.set_cons_zero, List.set_cons_succ, List.getElem_toArray, List.getElem_cons_zero, List.getElem_cons_succ]
      refine goAny_last (by kernel_rfl) (by kernel_rfl) rfl (fun K hK => ?_)
      rw [if_pos (by rfl)]
      refine wp_store_box 59 (.tmp 36) (.tmp 35) rfl w1.heap.size 0 (bA A) rfl rfl 63 (stA H B L) HN8.out set_size (le24 (show 0 + 8 ≤ 24 by decide)) (bA_one _) (stA A B L) (stA_put0 _ _ _ _) (fun w9 hb2 hf2 => ?_)
      have HN9 := Lib.hid hb2
      have HZ9 := Lib.hid (hf2.box HZ8.out (by rw [List.mem_singleton]; omega))
      have HB9 := Lib.hid (HB8.out.trans (hf2.below HB8.out.size (by intro b hb; rw [List.mem_singleton] at hb; omega)))
      clear hb2 hf2
      refine hK.out _ _ ?_
      clear hK K
      go_wp2_with fail
      refine wp_region_held_drew (S := fun w' => Box w' w1.heap.size (stA A B L) 63) (by kernel_rfl) HN9.out (fun hHeld => ?_)
      replace HN9 := Lib.hid (show Box w9.drew w1.heap.size (stA A B L) 63 from HN9.out)
      replace HZ9 := Lib.hid (show Box w9.drew (w.heap.size + 1) #[.slice none 0 0, .slice none 0 0, .slice none 0 0] 26 from HZ9.out)
      replace HB9 := Lib.hid HB9.out.drew
      generalize w9.drew = w9 at hHeld HN9 HZ9 HB9 ⊢
      refine wpAnyH_take (i := 0) (v := (.agg (stA A B L))) rfl (by kernel_rfl) (by kernel_rfl) (by kernel_rfl) (fun _ _ _ h => h) (Or.inl ⟨by rfl, ?hyf0⟩) (by assumption) ?restf0
      case hyf0 =>
        intro w hSw
        refine ex_load (ty := 63) (x := .tmp 6) (g := w1.heap.size) (off := 0) ?ho ?hx (run_load_box _ 63 w1.heap.size 0 24 _ _ _ _ hSw Try.underlying63 rfl st_size (Nat.le_refl 24) (stA_all A B L))
        case ho => rfl
        case hx => rfl
      simp only [Act.put, List.setIfInBounds_toArray, List.getElem_toArray, List.getElem_cons_zero]
      refine wpAnyH_take (i := 2) (v := ?vf2) rfl (by kernel_rfl) (by kernel_rfl) (by kernel_rfl) (fun _ _ _ h => h) (Or.inl ⟨by rfl, ?hyf2⟩) (by assumption) ?restf2
      case hyf2 =>
        intro w hSw
        try dsimp only at hSw
        go_simp
        try with_reducible rfl
      simp only [Act.put, List.setIfInBounds_toArray, List.set_cons_zero, List.set_cons_succ, List.getElem_toArray, List.getElem_cons_zero, List.getElem_cons_succ]
      refine wpAnyH_take (i := 3) (v := ?vf3) rfl (by kernel_rfl) (by kernel_rfl) (by kernel_rfl) (fun _ _ _ h => h) (Or.inl ⟨by rfl, ?hyf3⟩) (by assumption) ?restf3
      case hyf3 =>
        intro w hSw
        try dsimp only at hSw
        go_simp
        try with_reducible rfl
      simp only [Act.put, List.setIfInBounds_toArray, List.set_cons_zero, List.set_cons_succ, List.getElem_toArray, List.getElem_cons_zero, List.getElem_cons_succ]
      refine wpAnyH_take (i := 4) (v := (.agg (iA L))) rfl (by kernel_rfl) (by kernel_rfl) (by kernel_rfl) (fun _ _ _ h => h) (Or.inl ⟨by rfl, ?hyf4⟩) (by assumption) ?restf4
      case hyf4 =>
        intro w hSw
        refine ex_load (ty := 61) (x := .tmp 40) (g := w1.heap.size) (off := 16) ?ho ?hx (run_load_box _ 61 w1.heap.size 16 8 _ _ _ _ hSw Try.underlying61 rfl act_size (le24 (by decide)) (stA_acts A B L))
        case ho => rfl
        case hx => rfl
      simp only [Act.put, List.setIfInBounds_toArray, List.set_cons_zero, List.set_cons_succ, List.getElem_toArray, List.getElem_cons_zero, List.getElem_cons_succ]
      refine wpAnyH_take (i := 5) (v := ?vf5) rfl (by kernel_rfl) (by kernel_rfl) (by kernel_rfl) (fun _ _ _ h => h) (Or.inl ⟨by rfl, ?hyf5⟩) (by assumption) ?restf5
      case hyf5 =>
        intro w hSw
        try dsimp only at hSw
        go_simp
        try with_reducible rfl
      simp only [Act.put, List.setIfInBounds_toArray, List.set_cons_zero, List.set_cons_succ, List.getElem_toArray, List.getElem_cons_zero, List.getElem_cons_succ]
      refine wpAnyH_ready (rs := [1]) (by kernel_rfl) (by simp) ?_
      refine AllReadyH.cons rfl (fun K hK => ?_) AllReadyH.nil
      go_simp
      refine (sigsI A B L ⟨HAL.out, HL.out.2.1, HL.out.2.2⟩).mono ?_
      rintro e w10 ⟨g0, g1, g2, k0, k1, k2, rfl, hs, hb, hk0, hk1, hk2⟩
      have hlo := HN9.out.lt
      have HN10 := Lib.hid (HN9.out.below hb HN9.out.lt)
      have HZ10 := Lib.hid (HZ9.out.below hb HZ9.out.lt)
      have HB10 := Lib.hid (HB9.out.trans (hb.mono HB9.out.size))
      clear hb
      have HS10 := Lib.hid hs
      clear hs
      dsimp only
      refine hK.out _ _ ?_ (fun hHeld => ?_)
      · exact HN10.out
      clear hK K
      try simp only [Act.put, List.setIfInBounds_toArray, List.set_cons_zero, List.set_cons_succ, List.getElem_toArray, List.getElem_cons_zero, List.getElem_cons_succ]
      refine wpAnyH_ready (rs := [6]) (by kernel_rfl) (by simp) ?_
      refine AllReadyH.cons rfl (fun K hK => ?_) AllReadyH.nil
      go_simp
      refine (ofI L ((k : Int) + 1) HIN.out).mono ?_
      rintro e w11 ⟨rfl, hb⟩
      have HS11 := Lib.hid (HS10.out.below hb)
      clear HS10
      have HN11 := Lib.hid (HN10.out.below hb HN10.out.lt)
      have HZ11 := Lib.hid (HZ10.out.below hb HZ10.out.lt)
      have HB11 := Lib.hid (HB10.out.trans (hb.mono HB10.out.size))
      clear hb
      dsimp only
      refine hK.out _ _ ?_ (fun hHeld => ?_)
      · exact HN11.out
      clear hK K
      try simp only [Act.put, List.setIfInBounds_toArray, List.set_cons_zero, List.set_cons_succ, List.getElem_toArray, List.getElem_cons_zero, List.getElem_cons_succ]
      refine wpAnyH_ready (rs := [7]) (by kernel_rfl) (by simp) ?_
      refine AllReadyH.cons rfl (fun K hK => ?_) AllReadyH.nil
      have HE := Lib.hid (sig_end HS11.out (z := w.heap.size + 1) (by omega) (by omega) HB11.out (.slice (some ⟨g0, 0, none⟩) 8 k0) (.slice (some ⟨g1, 0, none⟩) 8 k1) (.slice (some ⟨g2, 0, none⟩) 8 k2) k0 k1 k2)
      have z0 := HZ11.out.cell 0
      have z1 := HZ11.out.cell 1
      have z2 := HZ11.out.cell 2
      have f0 := HZ11.out.frz 0
      have f1 := HZ11.out.frz 1
      have f2 := HZ11.out.frz 2
      have zl := HZ11.out.lt
      simp at z0 z1 z2
      go_simp
      refine hK.out _ _ ?_ (fun hHeld => ?_)
      · exact ((HN11.out.other (a := ⟨w.heap.size + 1, 0, none⟩) (by show w1.heap.size ≠ w.heap.size + 1; omega) _).other (a := ⟨w.heap.size + 1, 1, none⟩) (by show w1.heap.size ≠ w.heap.size + 1; omega) _).other (a := ⟨w.heap.size + 1, 2, none⟩) (by show w1.heap.size ≠ w.heap.size + 1; omega) _
      clear hK K
      try simp only [Act.put, List.setIfInBounds_toArray, List.set_cons_zero, List.set_cons_succ, List.getElem_toArray, List.getElem_cons_zero, List.getElem_cons_succ]
      refine wpAnyH_take (i := 8) (v := ?vf8) rfl (by kernel_rfl) (by kernel_rfl) (by kernel_rfl) (fun _ _ _ h => h) (Or.inl ⟨by rfl, ?hyf8⟩) (by assumption) ?restf8
      case hyf8 =>
        intro w hSw
        try dsimp only at hSw
        go_simp
        try with_reducible rfl
      simp only [Act.put, List.setIfInBounds_toArray, List.set_cons_zero, List.set_cons_succ, List.getElem_toArray, List.getElem_cons_zero, List.getElem_cons_succ]
      refine wpAnyH_take (i := 9) (v := ?vf9) rfl (by kernel_rfl) (by kernel_rfl) (by kernel_rfl) (fun _ _ _ h => h) (Or.inl ⟨by rfl, ?hyf9⟩) (by assumption) ?restf9
      case hyf9 =>
        intro w hSw
        try dsimp only at hSw
        go_simp
        try with_reducible rfl
      simp only [Act.put, List.setIfInBounds_toArray, List.set_cons_zero, List.set_cons_succ, List.getElem_toArray, List.getElem_cons_zero, List.getElem_cons_succ]
      refine wpAnyH_take (i := 10) (v := ?vf10) rfl (by kernel_rfl) (by kernel_rfl) (by kernel_rfl) (fun _ _ _ h => h) (Or.inl ⟨by rfl, ?hyf10⟩) (by assumption) ?restf10
      case hyf10 =>
        intro w hSw
        try dsimp only at hSw
        go_simp
        try with_reducible rfl
      simp only [Act.put, List.setIfInBounds_toArray, List.set_cons_zero, List.set_cons_succ, List.getElem_toArray, List.getElem_cons_zero, List.getElem_cons_succ]
      refine wpAnyH_done (by kernel_rfl) ?_ _
      go_wp2_with fail
      exact bodyPost_ret (v := .tuple #[.agg #[.slice (some ⟨g0, 0, none⟩) 8 k0, .slice (some ⟨g1, 0, none⟩) 8 k1, .slice (some ⟨g2, 0, none⟩) 8 k2], .int .i64 ((k : Int) + 1), .int .i64 (doesI L ((k : Int) + 1)), .bool true]) (by simp [results, Try.results23, go_sem, z0, z1, z2]) rfl ⟨_, _, _, _, by rw [HF0.out, HF1.out, HF2.out], by rw [HY.out]; exact HE.out.1, HE.out.2.1, by rw [HY.out]; exact HE.out.2.2.1, HE.out.2.2.2⟩
end
end Go.Proofs.Ytncinocpdeokgaa
