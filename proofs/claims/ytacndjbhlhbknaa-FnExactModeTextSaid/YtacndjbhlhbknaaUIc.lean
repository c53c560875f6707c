/-
  The program's CredBecome, CredRun, CredSignal.
-/
import Derived.Test.YtacndjbhlhbknaaUIb
namespace Go.Proofs.Ytacndjbhlhbknaa
open Go.RowKit

theorem nilCredM {w : World} : tyCred.M w [] [.int .i64 0, .int .i64 0, .slice none 0 0] (0, 0, []) := tyCred_Mmk (D := (0, 0, [])) (f2 := []) ⟨rfl, by simp, fun h => absurd h (Nat.lt_irrefl 0)⟩
theorem nilSmall : smallCred (0, 0, []) := by simp [smallCred]

set_option maxHeartbeats 2000000 in
theorem credBecI : CBecM 22 := by
  intro w hi x0 x1 x2 D x h hs
  have HR0 := Lib.hid h
  obtain ⟨A, n, c, hcs, hl, hn, hr⟩ := tyCred_R h
  simp only [List.cons.injEq, and_true] at hcs
  obtain ⟨rfl, rfl, rfl⟩ := hcs
  unfold smallCred at hs
  rw [hl] at hs
  have HR := Lib.hid hr
  have HL := Lib.hid hl
  clear h hr hl hn
  obtain ⟨u, v, l⟩ := D
  dsimp only at HR0 HR HL ⊢
  have HSM := Lib.hid (show ∀ p q : Int, smallCred (p, q, l) from fun p q => by unfold smallCred; dsimp only; rw [HL.out]; exact hs)
  have B0 := Lib.hid ((Box.new w #[.int .i64 u, .int .i64 v, .slice A n c] 25).alloc (.cells #[.int .i64 0, .int .i64 0, .slice none 0 0] 25))
  have C0 := Lib.hid (Box.new (w.alloc (.cells #[.int .i64 u, .int .i64 v, .slice A n c] 25)) #[.int .i64 0, .int .i64 0, .slice none 0 0] 25)
  simp only [World.size_alloc] at C0
  have HB0 := Lib.hid (show Below w.heap.size w ((w.alloc (.cells #[.int .i64 u, .int .i64 v, .slice A n c] 25)).alloc (.cells #[.int .i64 0, .int .i64 0, .slice none 0 0] 25)) from ((Below.refl _ _).alloc (Nat.le_refl _) _).alloc (by simp only [World.size_alloc]; omega) _)
  have HCB : becB (u, v, l) x = (credB (u, v, l) && (uB x && (decide (u = 0) || (decide (x = v) || decide (x = u))))) := rfl
  go_enter Try.func22, Try.ntmps22
  go_wp2_with fail
  refine (credOkI (Ty.below_w HR0.out HB0.out)).mono ?_
  rintro e w1 ⟨rfl, hb1⟩
  have HB1 := Lib.hid (HB0.out.trans (hb1.mono HB0.out.size))
  have B1 := Lib.hid (B0.out.below hb1 B0.out.lt)
  have C1 := Lib.hid (C0.out.below hb1 C0.out.lt)
  clear hb1
  have t0 := B1.out.cell 0
  have t1 := B1.out.cell 1
  have t2 := B1.out.cell 2
  have r0 := C1.out.cell 0
  have r1 := C1.out.cell 1
  have r2 := C1.out.cell 2
  have q0 := C1.out.frz 0
  have q1 := C1.out.frz 1
  have q2 := C1.out.frz 2
  have u0 := B1.out.lt
  have u1 := C1.out.lt
  simp at t0 t1 t2 r0 r1 r2
  have HBZ := Lib.hid (((HB1.out.setCell (p := ⟨w.heap.size + 1, 0, none⟩) (by show w.heap.size ≤ w.heap.size + 1; omega) (.int .i64 0)).setCell (p := ⟨w.heap.size + 1, 1, none⟩) (by show w.heap.size ≤ w.heap.size + 1; omega) (.int .i64 0)).setCell (p := ⟨w.heap.size + 1, 2, none⟩) (by show w.heap.size ≤ w.heap.size + 1; omega) (.slice none 0 0))
  by_cases hc : credB (u, v, l) = true
  · rw [hc] at HCB ⊢
    have HCC := Lib.hid HCB
    clear HCB hc
    go_wp2_with fail
    refine (userOk_any x).mono ?_
    rintro e w3 ⟨rfl, rfl⟩
    by_cases hx : uB x = true
    · rw [hx]
      have HX := Lib.hid hx
      clear hx
      by_cases h0 : u = 0
      · subst h0
        have HV := Lib.hid (show becB (0, v, l) x = true by rw [HCC.out, HX.out]; simp)
        go_wp2_with fail
        refine (as_any x x (HR.out.wb HB1.out) HL.out hs).mono ?_
        rintro e w2 ⟨A', c', fp, rfl, hm, hf, hb2⟩
        have HB2 := Lib.hid (HB1.out.trans (hb2.mono HB1.out.size))
        have C2 := Lib.hid (C1.out.below hb2 C1.out.lt)
        have HM := Lib.hid hm
        have HF := Lib.hid (fun b hb => (show w.heap.size + 1 < b ∧ b < w2.heap.size from by have h := hf b hb; omega))
        clear hb2 hm hf t0 t1 t2 r0 r1 r2 q0 q1 q2 u0 u1
        have r0 := C2.out.cell 0
        have r1 := C2.out.cell 1
        have r2 := C2.out.cell 2
        have q0 := C2.out.frz 0
        have q1 := C2.out.frz 1
        have q2 := C2.out.frz 2
        have u1 := C2.out.lt
        simp at r0 r1 r2
        go_wp2_with fail
        refine bodyPost_ret (v := .tuple #[.agg #[.int .i64 x, .int .i64 x, .slice A' n c'], .bool true]) (by simp [results, Try.results22, go_sem, r0, r1, r2]) rfl ⟨_, _, _, fp, by rw [HV.out], by rw [bec_yes HV.out]; exact tyCred_Mmk (D := (x, x, l)) ⟨HL.out, hs, ((HM.out.setOther ⟨w.heap.size + 1, 0, none⟩ _ (fun b hb => by have h := HF.out b hb; show b ≠ w.heap.size + 1; omega)).setOther ⟨w.heap.size + 1, 1, none⟩ _ (fun b hb => by have h := HF.out b hb; show b ≠ w.heap.size + 1; omega)).setOther ⟨w.heap.size + 1, 2, none⟩ _ (fun b hb => by have h := HF.out b hb; show b ≠ w.heap.size + 1; omega)⟩,
          fun b hb => by have h := HF.out b hb; simp only [World.size_setCell]; omega, by rw [bec_yes HV.out]; exact HSM.out _ _, ((HB2.out.setCell (p := ⟨w.heap.size + 1, 0, none⟩) (by show w.heap.size ≤ w.heap.size + 1; omega) _).setCell (p := ⟨w.heap.size + 1, 1, none⟩) (by show w.heap.size ≤ w.heap.size + 1; omega) _).setCell (p := ⟨w.heap.size + 1, 2, none⟩) (by show w.heap.size ≤ w.heap.size + 1; omega) _⟩
      · have HN0 := Lib.hid h0
        have e0 : (u == 0) = false := by simpa using h0
        clear h0
        go_wp2_with fail
        refine (has_any (l := l) x).mono ?_
        rintro e w4 ⟨rfl, hb4⟩
        have HB4 := Lib.hid (HB1.out.trans (hb4.mono HB1.out.size))
        have B4 := Lib.hid (B1.out.below hb4 B1.out.lt)
        have C4 := Lib.hid (C1.out.below hb4 C1.out.lt)
        clear hb4 t0 t1 t2 r0 r1 r2 q0 q1 q2 u0 u1
        have t0 := B4.out.cell 0
        have t1 := B4.out.cell 1
        have t2 := B4.out.cell 2
        have r0 := C4.out.cell 0
        have r1 := C4.out.cell 1
        have r2 := C4.out.cell 2
        have q0 := C4.out.frz 0
        have q1 := C4.out.frz 1
        have q2 := C4.out.frz 2
        have u0 := B4.out.lt
        have u1 := C4.out.lt
        simp at t0 t1 t2 r0 r1 r2
        by_cases hh : hasU (u, v, l) x = true
        · have HV := Lib.hid (show becB (u, v, l) x = true by
            rw [HCC.out, HX.out]
            unfold hasU at hh
            dsimp only at hh
            rw [Bool.or_comm (decide (x = v)), hh]
            simp)
          rw [hh]
          clear hh
          go_wp2_with fail
          refine (as_any x v (HR.out.wb HB4.out) HL.out hs).mono ?_
          rintro e w2 ⟨A', c', fp, rfl, hm, hf, hb2⟩
          have HB2 := Lib.hid (HB4.out.trans (hb2.mono HB4.out.size))
          have C2 := Lib.hid (C4.out.below hb2 C4.out.lt)
          have HM := Lib.hid hm
          have HF := Lib.hid (fun b hb => (show w.heap.size + 1 < b ∧ b < w2.heap.size from by have h := hf b hb; omega))
          clear hb2 hm hf t0 t1 t2 r0 r1 r2 q0 q1 q2 u0 u1
          have r0 := C2.out.cell 0
          have r1 := C2.out.cell 1
          have r2 := C2.out.cell 2
          have q0 := C2.out.frz 0
          have q1 := C2.out.frz 1
          have q2 := C2.out.frz 2
          have u1 := C2.out.lt
          simp at r0 r1 r2
          go_wp2_with fail
          refine bodyPost_ret (v := .tuple #[.agg #[.int .i64 x, .int .i64 v, .slice A' n c'], .bool true]) (by simp [results, Try.results22, go_sem, r0, r1, r2]) rfl ⟨_, _, _, fp, by rw [HV.out], by rw [bec_yes HV.out]; dsimp only; rw [if_neg HN0.out]; exact tyCred_Mmk (D := (x, v, l)) ⟨HL.out, hs, ((HM.out.setOther ⟨w.heap.size + 1, 0, none⟩ _ (fun b hb => by have h := HF.out b hb; show b ≠ w.heap.size + 1; omega)).setOther ⟨w.heap.size + 1, 1, none⟩ _ (fun b hb => by have h := HF.out b hb; show b ≠ w.heap.size + 1; omega)).setOther ⟨w.heap.size + 1, 2, none⟩ _ (fun b hb => by have h := HF.out b hb; show b ≠ w.heap.size + 1; omega)⟩,
            fun b hb => by have h := HF.out b hb; simp only [World.size_setCell]; omega, by rw [bec_yes HV.out]; exact HSM.out _ _, ((HB2.out.setCell (p := ⟨w.heap.size + 1, 0, none⟩) (by show w.heap.size ≤ w.heap.size + 1; omega) _).setCell (p := ⟨w.heap.size + 1, 1, none⟩) (by show w.heap.size ≤ w.heap.size + 1; omega) _).setCell (p := ⟨w.heap.size + 1, 2, none⟩) (by show w.heap.size ≤ w.heap.size + 1; omega) _⟩
        · have hh' : hasU (u, v, l) x = false := by simpa using hh
          have HV := Lib.hid (show becB (u, v, l) x = false by
            rw [HCC.out, HX.out]
            unfold hasU at hh'
            dsimp only at hh'
            rw [Bool.or_comm (decide (x = v)), hh', decide_eq_false HN0.out]
            rfl)
          rw [hh']
          clear hh hh'
          go_wp2_with fail
          refine bodyPost_ret (v := .tuple #[.agg #[.int .i64 0, .int .i64 0, .slice none 0 0], .bool false]) (by simp [results, Try.results22, go_sem, r0, r1, r2]) rfl ⟨_, _, _, [], by rw [HV.out], by rw [bec_no HV.out]; exact nilCredM, fun b hb => absurd hb List.not_mem_nil, by rw [bec_no HV.out]; exact nilSmall, ((HB4.out.setCell (p := ⟨w.heap.size + 1, 0, none⟩) (by show w.heap.size ≤ w.heap.size + 1; omega) _).setCell (p := ⟨w.heap.size + 1, 1, none⟩) (by show w.heap.size ≤ w.heap.size + 1; omega) _).setCell (p := ⟨w.heap.size + 1, 2, none⟩) (by show w.heap.size ≤ w.heap.size + 1; omega) _⟩
    · have hx' : uB x = false := by simpa using hx
      have HV := Lib.hid (show becB (u, v, l) x = false by rw [HCC.out, hx']; rfl)
      rw [hx']
      clear hx hx'
      go_wp2_with fail
      refine bodyPost_ret (v := .tuple #[.agg #[.int .i64 0, .int .i64 0, .slice none 0 0], .bool false]) (by simp [results, Try.results22, go_sem, r0, r1, r2]) rfl ⟨_, _, _, [], by rw [HV.out], by rw [bec_no HV.out]; exact nilCredM, fun b hb => absurd hb List.not_mem_nil, by rw [bec_no HV.out]; exact nilSmall, HBZ.out⟩
  · have hc' : credB (u, v, l) = false := by simpa using hc
    have HV := Lib.hid (show becB (u, v, l) x = false by rw [HCB, hc']; rfl)
    rw [hc']
    clear hc hc' HCB
    go_wp2_with fail
    refine bodyPost_ret (v := .tuple #[.agg #[.int .i64 0, .int .i64 0, .slice none 0 0], .bool false]) (by simp [results, Try.results22, go_sem, r0, r1, r2]) rfl ⟨_, _, _, [], by rw [HV.out], by rw [bec_no HV.out]; exact nilCredM, fun b hb => absurd hb List.not_mem_nil, by rw [bec_no HV.out]; exact nilSmall, HBZ.out⟩

set_option maxHeartbeats 2000000 in
theorem credRunI : CRunM 37 := by
  intro w hi x0 x1 x2 D x h hs
  have HR0 := Lib.hid h
  obtain ⟨A, n, c, hcs, hl, hn, hr⟩ := tyCred_R h
  simp only [List.cons.injEq, and_true] at hcs
  obtain ⟨rfl, rfl, rfl⟩ := hcs
  unfold smallCred at hs
  rw [hl] at hs
  have HR := Lib.hid hr
  have HL := Lib.hid hl
  clear h hr hl hn
  obtain ⟨u, v, l⟩ := D
  dsimp only at HR0 HR HL ⊢
  have HSM := Lib.hid (show ∀ p q : Int, smallCred (p, q, l) from fun p q => by unfold smallCred; dsimp only; rw [HL.out]; exact hs)
  have B0 := Lib.hid ((Box.new w #[.int .i64 u, .int .i64 v, .slice A n c] 25).alloc (.cells #[.int .i64 0, .int .i64 0, .slice none 0 0] 25))
  have C0 := Lib.hid (Box.new (w.alloc (.cells #[.int .i64 u, .int .i64 v, .slice A n c] 25)) #[.int .i64 0, .int .i64 0, .slice none 0 0] 25)
  simp only [World.size_alloc] at C0
  have HB0 := Lib.hid (show Below w.heap.size w ((w.alloc (.cells #[.int .i64 u, .int .i64 v, .slice A n c] 25)).alloc (.cells #[.int .i64 0, .int .i64 0, .slice none 0 0] 25)) from ((Below.refl _ _).alloc (Nat.le_refl _) _).alloc (by simp only [World.size_alloc]; omega) _)
  have HCB : runB (u, v, l) x = (credB (u, v, l) && uB x) := rfl
  go_enter Try.func37, Try.ntmps37
  go_wp2_with fail
  refine (credOkI (Ty.below_w HR0.out HB0.out)).mono ?_
  rintro e w1 ⟨rfl, hb1⟩
  have HB1 := Lib.hid (HB0.out.trans (hb1.mono HB0.out.size))
  have B1 := Lib.hid (B0.out.below hb1 B0.out.lt)
  have C1 := Lib.hid (C0.out.below hb1 C0.out.lt)
  clear hb1
  have t0 := B1.out.cell 0
  have t1 := B1.out.cell 1
  have t2 := B1.out.cell 2
  have r0 := C1.out.cell 0
  have r1 := C1.out.cell 1
  have r2 := C1.out.cell 2
  have q0 := C1.out.frz 0
  have q1 := C1.out.frz 1
  have q2 := C1.out.frz 2
  have u0 := B1.out.lt
  have u1 := C1.out.lt
  simp at t0 t1 t2 r0 r1 r2
  have HBZ := Lib.hid (((HB1.out.setCell (p := ⟨w.heap.size + 1, 0, none⟩) (by show w.heap.size ≤ w.heap.size + 1; omega) (.int .i64 0)).setCell (p := ⟨w.heap.size + 1, 1, none⟩) (by show w.heap.size ≤ w.heap.size + 1; omega) (.int .i64 0)).setCell (p := ⟨w.heap.size + 1, 2, none⟩) (by show w.heap.size ≤ w.heap.size + 1; omega) (.slice none 0 0))
  by_cases hc : credB (u, v, l) = true
  · rw [hc] at HCB ⊢
    have HCC := Lib.hid HCB
    clear HCB hc
    go_wp2_with fail
    refine (userOk_any x).mono ?_
    rintro e w3 ⟨rfl, rfl⟩
    by_cases hx : uB x = true
    · rw [hx]
      have HV := Lib.hid (show runB (u, v, l) x = true by rw [HCC.out, hx]; rfl)
      clear hx
      go_wp2_with fail
      refine (as_any x v (HR.out.wb HB1.out) HL.out hs).mono ?_
      rintro e w2 ⟨A', c', fp, rfl, hm, hf, hb2⟩
      have HB2 := Lib.hid (HB1.out.trans (hb2.mono HB1.out.size))
      have C2 := Lib.hid (C1.out.below hb2 C1.out.lt)
      have HM := Lib.hid hm
      have HF := Lib.hid (fun b hb => (show w.heap.size + 1 < b ∧ b < w2.heap.size from by have h := hf b hb; omega))
      clear hb2 hm hf t0 t1 t2 r0 r1 r2 q0 q1 q2 u0 u1
      have r0 := C2.out.cell 0
      have r1 := C2.out.cell 1
      have r2 := C2.out.cell 2
      have q0 := C2.out.frz 0
      have q1 := C2.out.frz 1
      have q2 := C2.out.frz 2
      have u1 := C2.out.lt
      simp at r0 r1 r2
      go_wp2_with fail
      refine bodyPost_ret (v := .tuple #[.agg #[.int .i64 x, .int .i64 v, .slice A' n c'], .bool true]) (by simp [results, Try.results37, go_sem, r0, r1, r2]) rfl ⟨_, _, _, fp, by rw [HV.out], by rw [run_yes HV.out]; exact tyCred_Mmk (D := (x, v, l)) ⟨HL.out, hs, ((HM.out.setOther ⟨w.heap.size + 1, 0, none⟩ _ (fun b hb => by have h := HF.out b hb; show b ≠ w.heap.size + 1; omega)).setOther ⟨w.heap.size + 1, 1, none⟩ _ (fun b hb => by have h := HF.out b hb; show b ≠ w.heap.size + 1; omega)).setOther ⟨w.heap.size + 1, 2, none⟩ _ (fun b hb => by have h := HF.out b hb; show b ≠ w.heap.size + 1; omega)⟩,
        fun b hb => by have h := HF.out b hb; simp only [World.size_setCell]; omega, by rw [run_yes HV.out]; exact HSM.out _ _, ((HB2.out.setCell (p := ⟨w.heap.size + 1, 0, none⟩) (by show w.heap.size ≤ w.heap.size + 1; omega) _).setCell (p := ⟨w.heap.size + 1, 1, none⟩) (by show w.heap.size ≤ w.heap.size + 1; omega) _).setCell (p := ⟨w.heap.size + 1, 2, none⟩) (by show w.heap.size ≤ w.heap.size + 1; omega) _⟩
    · have hx' : uB x = false := by simpa using hx
      have HV := Lib.hid (show runB (u, v, l) x = false by rw [HCC.out, hx']; rfl)
      rw [hx']
      clear hx hx'
      go_wp2_with fail
      refine bodyPost_ret (v := .tuple #[.agg #[.int .i64 0, .int .i64 0, .slice none 0 0], .bool false]) (by simp [results, Try.results37, go_sem, r0, r1, r2]) rfl ⟨_, _, _, [], by rw [HV.out], by rw [run_no HV.out]; exact nilCredM, fun b hb => absurd hb List.not_mem_nil, by rw [run_no HV.out]; exact nilSmall, HBZ.out⟩
  · have hc' : credB (u, v, l) = false := by simpa using hc
    have HV := Lib.hid (show runB (u, v, l) x = false by rw [HCB, hc']; rfl)
    rw [hc']
    clear hc hc' HCB
    go_wp2_with fail
    refine bodyPost_ret (v := .tuple #[.agg #[.int .i64 0, .int .i64 0, .slice none 0 0], .bool false]) (by simp [results, Try.results37, go_sem, r0, r1, r2]) rfl ⟨_, _, _, [], by rw [HV.out], by rw [run_no HV.out]; exact nilCredM, fun b hb => absurd hb List.not_mem_nil, by rw [run_no HV.out]; exact nilSmall, HBZ.out⟩

set_option maxHeartbeats 2000000 in
theorem credSgnI : CSgn 40 := by
  intro w hi hi2 x0 x1 x2 y0 y1 y2 D E h h'
  have HR0 := Lib.hid h
  have HE0 := Lib.hid h'
  obtain ⟨A, n, c, hcs, _⟩ := tyCred_R h
  simp only [List.cons.injEq, and_true] at hcs
  obtain ⟨rfl, rfl, rfl⟩ := hcs
  obtain ⟨A', n', c', hcs, _⟩ := tyCred_R h'
  simp only [List.cons.injEq, and_true] at hcs
  obtain ⟨rfl, rfl, rfl⟩ := hcs
  clear h h'
  obtain ⟨u, v, l⟩ := D
  obtain ⟨u', v', l'⟩ := E
  dsimp only at HR0 HE0 ⊢
  have B0 := Lib.hid ((Box.new w #[.int .i64 u, .int .i64 v, .slice A n c] 25).alloc (.cells #[.int .i64 u', .int .i64 v', .slice A' n' c'] 25))
  have C0 := Lib.hid (Box.new (w.alloc (.cells #[.int .i64 u, .int .i64 v, .slice A n c] 25)) #[.int .i64 u', .int .i64 v', .slice A' n' c'] 25)
  simp only [World.size_alloc] at C0
  have HB0 := Lib.hid (show Below w.heap.size w ((w.alloc (.cells #[.int .i64 u, .int .i64 v, .slice A n c] 25)).alloc (.cells #[.int .i64 u', .int .i64 v', .slice A' n' c'] 25)) from ((Below.refl _ _).alloc (Nat.le_refl _) _).alloc (by simp only [World.size_alloc]; omega) _)
  have HS := Lib.hid (show sgnB (u, v, l) (u', v', l') = (credB (u, v, l) && (credB (u', v', l') && (decide (u = 0) || (decide (u = u') || (decide (u = v') || (decide (v = u') || decide (v = v'))))))) from rfl)
  go_enter Try.func40, Try.ntmps40
  go_wp2_with fail
  refine (credOkI (Ty.below_w HR0.out HB0.out)).mono ?_
  rintro e w1 ⟨rfl, hb1⟩
  have HB1 := Lib.hid (HB0.out.trans (hb1.mono HB0.out.size))
  have B1 := Lib.hid (B0.out.below hb1 B0.out.lt)
  have C1 := Lib.hid (C0.out.below hb1 C0.out.lt)
  clear hb1
  have t0 := B1.out.cell 0
  have t1 := B1.out.cell 1
  have t2 := B1.out.cell 2
  have r0 := C1.out.cell 0
  have r1 := C1.out.cell 1
  have r2 := C1.out.cell 2
  have u0 := B1.out.lt
  have u1 := C1.out.lt
  simp at t0 t1 t2 r0 r1 r2
  by_cases hc : credB (u, v, l) = true
  · rw [hc] at HS ⊢
    clear hc
    go_wp2_with fail
    refine (credOkI (Ty.below_w HE0.out HB1.out)).mono ?_
    rintro e w2 ⟨rfl, hb2⟩
    have HB2 := Lib.hid (HB1.out.trans (hb2.mono HB1.out.size))
    have B2 := Lib.hid (B1.out.below hb2 B1.out.lt)
    have C2 := Lib.hid (C1.out.below hb2 C1.out.lt)
    clear hb2 t0 t1 t2 r0 r1 r2 u0 u1
    have t0 := B2.out.cell 0
    have t1 := B2.out.cell 1
    have t2 := B2.out.cell 2
    have r0 := C2.out.cell 0
    have r1 := C2.out.cell 1
    have r2 := C2.out.cell 2
    have u0 := B2.out.lt
    have u1 := C2.out.lt
    simp at t0 t1 t2 r0 r1 r2
    by_cases hd : credB (u', v', l') = true
    · rw [hd] at HS ⊢
      clear hd
      by_cases h0 : u = 0
      · subst h0
        go_wp2_with fail
        go_ret
        exact ⟨ret_bool (by rw [HS.out]; rfl), HB2.out⟩
      · have e0 : (u == 0) = false := by simpa using h0
        rw [decide_eq_false h0] at HS
        clear h0
        go_wp2_with fail
        refine (has_any (l := l') u).mono ?_
        rintro e w3 ⟨rfl, hb3⟩
        have HB3 := Lib.hid (HB2.out.trans (hb3.mono HB2.out.size))
        have B3 := Lib.hid (B2.out.below hb3 B2.out.lt)
        have C3 := Lib.hid (C2.out.below hb3 C2.out.lt)
        clear hb3 t0 t1 t2 r0 r1 r2 u0 u1
        have t0 := B3.out.cell 0
        have t1 := B3.out.cell 1
        have t2 := B3.out.cell 2
        have r0 := C3.out.cell 0
        have r1 := C3.out.cell 1
        have r2 := C3.out.cell 2
        have u0 := B3.out.lt
        have u1 := C3.out.lt
        simp at t0 t1 t2 r0 r1 r2
        have HH1 := Lib.hid (show hasU (u', v', l') u = (decide (u = u') || decide (u = v')) from rfl)
        have HH2 := Lib.hid (show hasU (u', v', l') v = (decide (v = u') || decide (v = v')) from rfl)
        by_cases hh : hasU (u', v', l') u = true
        · rw [hh] at HH1
          rw [hh]
          clear hh
          go_wp2_with fail
          go_ret
          exact ⟨ret_bool (by rw [HS.out, ← Bool.or_assoc (decide (u = u')), ← HH1.out]; rfl), HB3.out⟩
        · have hh' : hasU (u', v', l') u = false := by simpa using hh
          rw [hh'] at HH1
          rw [hh']
          clear hh hh'
          go_wp2_with fail
          refine (has_any (l := l') v).mono ?_
          rintro e w4 ⟨rfl, hb4⟩
          have HB4 := Lib.hid (HB3.out.trans (hb4.mono HB3.out.size))
          clear hb4
          rw [HH2.out]
          generalize hz : (decide (v = u') || decide (v = v')) = z
          have HZ := Lib.hid hz
          clear hz
          cases z
          · go_wp2_with fail
            go_ret
            exact ⟨ret_bool (by rw [HS.out, ← Bool.or_assoc (decide (u = u')), ← HH1.out, HZ.out]; rfl), HB4.out⟩
          · go_wp2_with fail
            go_ret
            exact ⟨ret_bool (by rw [HS.out, ← Bool.or_assoc (decide (u = u')), ← HH1.out, HZ.out]; rfl), HB4.out⟩
    · have hd' : credB (u', v', l') = false := by simpa using hd
      rw [hd'] at HS ⊢
      clear hd hd'
      go_wp2_with fail
      go_ret
      exact ⟨ret_bool (by rw [HS.out]; rfl), HB2.out⟩
  · have hc' : credB (u, v, l) = false := by simpa using hc
    rw [hc'] at HS ⊢
    clear hc hc'
    go_wp2_with fail
    go_ret
    exact ⟨ret_bool (by rw [HS.out]; rfl), HB1.out⟩
end Go.Proofs.Ytacndjbhlhbknaa
