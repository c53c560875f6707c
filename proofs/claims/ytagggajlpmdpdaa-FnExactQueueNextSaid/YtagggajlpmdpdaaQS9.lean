/-
  The model's QueueSleep, QueueTick.
-/
import Derived.Test.YtagggajlpmdpdaaQS8
namespace Go.Proofs.Ytagggajlpmdpdaa
open Go.RowKit

theorem tik_no {D : Qu} (h : qB D = false) : tikO D = none ∧ tikD D = qZ ∧ tikI D = -1 := by
  have h1 : tikO D = none := by unfold tikO; rw [h]; rfl
  exact ⟨h1, by unfold tikD; rw [h1], by unfold tikI; rw [h1]⟩
theorem tik_yes {D : Qu} (h : qB D = true) : tikO D = tickD D := by unfold tikO; rw [if_pos h]
theorem rng_of {D : Qu} (h : qB D = true) : RngQ D.1 := fun k hk => by
  have h2 := (qB_iff.1 h).1 k hk
  have h3 := tok_iff.1 h2.1
  exact ⟨h3.2.1, h3.2.2.1⟩
theorem tk_id {D : Qu} {r : Qu × Int} (h : qB D = true) (ht : tickD D = some r) : 0 ≤ r.2 := by
  unfold tickD at ht
  split at ht
  · cases ht
  · split at ht
    · cases ht
    · injection ht with ht
      subst ht
      rename_i h1 _
      have hl := (nx_lt D.1 D.1.length).2
      have h2 := (qB_iff.1 h).1 (nxI D.1).toNat (by unfold nxI at *; omega)
      exact (tok_iff.1 h2.1).1.1

section
variable {w : World}
set_option maxHeartbeats 2000000 in
set_option maxRecDepth 100000 in
theorem queueSleep_s : QSlpS 42 := by
  intro w hi x0 x1 D id h hs hcq
  obtain ⟨A, n, c, hcs, hl, hn, hr⟩ := tyQueue_R h
  simp only [List.cons.injEq, and_true] at hcs
  obtain ⟨rfl, rfl⟩ := hcs
  obtain ⟨l, F⟩ := D
  dsimp only at hl hr ⊢
  have HR0 := Lib.hid h
  have HL := Lib.hid hl
  have HRT := Lib.hid (rowT hr)
  unfold maxLen at hn
  clear h hr hl
  unfold smallQueue at hs
  dsimp only at hs
  have HS := Lib.hid (show smallQueue (l, F) from hs)
  have HCQ := Lib.hid hcq
  clear hs hcq
  have X0 := Lib.hid ((Box.new w #[.slice A n c, .int .i64 F] 25).alloc (.cells #[.slice none 0 0, .int .i64 0] 25))
  have Z0 := Lib.hid (Box.new (w.alloc (.cells #[.slice A n c, .int .i64 F] 25)) #[.slice none 0 0, .int .i64 0] 25)
  simp only [World.size_alloc] at Z0
  have HB0 := Lib.hid (show Below w.heap.size w ((w.alloc (.cells #[.slice A n c, .int .i64 F] 25)).alloc (.cells #[.slice none 0 0, .int .i64 0] 25)) from ((Below.refl _ _).alloc (Nat.le_refl _) _).alloc (by simp only [World.size_alloc]; omega) _)
  go_enter Try.func42, Try.ntmps42
  go_wp2_with fail
  refine (qAt_any id (Ty.below_w HR0.out HB0.out)).mono ?_
  rintro e w1 ⟨rfl, hb1⟩
  have HB1 := Lib.hid (HB0.out.trans (hb1.mono HB0.out.size))
  have X1 := Lib.hid (X0.out.below hb1 X0.out.lt)
  have Z1 := Lib.hid (Z0.out.below hb1 Z0.out.lt)
  clear hb1
  have p0 := X1.out.cell 0
  have p1 := X1.out.cell 1
  have pl := X1.out.lt
  have z0 := Z1.out.cell 0
  have z1 := Z1.out.cell 1
  have e0 := Z1.out.frz 0
  have e1 := Z1.out.frz 1
  have zl := Z1.out.lt
  simp at p0 p1 z0 z1
  go_wp2_with fail
  refine (queueOk_any (Ty.below_w HR0.out HB1.out)).mono ?_
  rintro e w2 ⟨rfl, hb2⟩
  clear p0 p1 pl z0 z1 e0 e1 zl
  have HB2 := Lib.hid (HB1.out.trans (hb2.mono HB1.out.size))
  have X2 := Lib.hid (X1.out.below hb2 X1.out.lt)
  have Z2 := Lib.hid (Z1.out.below hb2 Z1.out.lt)
  clear hb2
  have p0 := X2.out.cell 0
  have p1 := X2.out.cell 1
  have pl := X2.out.lt
  have z0 := Z2.out.cell 0
  have z1 := Z2.out.cell 1
  have e0 := Z2.out.frz 0
  have e1 := Z2.out.frz 1
  have zl := Z2.out.lt
  simp at p0 p1 z0 z1
  dsimp only
  by_cases hb : hasB (l, F) id = true
  · have hb2 := hb
    unfold hasB at hb2
    rw [Bool.and_eq_true, decide_eq_true_eq] at hb2
    obtain ⟨hq, hk⟩ := hb2
    have HV := Lib.hid (show slpD (l, F) id = _ from by unfold slpD; rw [hb, if_pos rfl])
    obtain ⟨m, hm, hml, _, _⟩ := at_lt hk
    have hsm := qB_iff.1 hq
    rw [hq, hm]
    rw [hm, Int.toNat_natCast] at HV
    have HLN := Lib.hid hsm.2.1
    have HBT := Lib.hid hb
    have hk3 : ¬ ((m : Int) < 0) := by omega
    have HML := Lib.hid hml
    clear hb hq hk hm hsm hml
    go_wp2_with fail
    refine (qCopy_any (Ty.below_w HR0.out HB2.out) HS.out).mono ?_
    rintro e w3 ⟨y0, y1, fp, rfl, hm, hf, _, hb3⟩
    clear p0 p1 pl z0 z1 e0 e1 zl
    have HB3 := Lib.hid (HB2.out.trans (hb3.mono HB2.out.size))
    have X3 := Lib.hid (X2.out.below hb3 X2.out.lt)
    have Z3 := Lib.hid (Z2.out.below hb3 Z2.out.lt)
    clear hb3
    have p0 := X3.out.cell 0
    have p1 := X3.out.cell 1
    have pl := X3.out.lt
    have z0 := Z3.out.cell 0
    have z1 := Z3.out.cell 1
    have e0 := Z3.out.frz 0
    have e1 := Z3.out.frz 1
    have zl := Z3.out.lt
    simp at p0 p1 z0 z1
    obtain ⟨A9, n9, c9, hcs⟩ := tyQueue_shM hm
    simp only [List.cons.injEq, and_true] at hcs
    obtain ⟨rfl, rfl⟩ := hcs
    have HM := Lib.hid hm
    have HF := Lib.hid hf
    clear hm hf
    obtain ⟨b, o, c8, hx0, hx1, hfe, hbs, hfz, hr, hn8, hat⟩ := ownQ HM.out (k := m) HML.out
    dsimp only at hx0 hx1 hr hat hn8
    injection hx0 with e1 e2 e3
    subst e1 e2 e3
    subst hfe
    obtain ⟨c0, c1, c2, c3⟩ := hat m HML.out
    have hf3 := hfz (o + m * 4 + 3)
    have hbb := HF.out b (List.mem_singleton.2 rfl)
    have HRR := Lib.hid hr
    have HR4 := Lib.hid (rowM_ready (x := false) hr rfl HML.out)
    have hk1 : (m : Int) < (l.length : Int) := by have := HML.out; (try dsimp only at this); omega
    have hk2 : (0 : Int) ≤ (m : Int) := by omega
    clear hr hat hfz
    have q1 : ¬ (b = w.heap.size) := by have := HB2.out.size; have := Z2.out.lt; omega
    have q2 : ¬ (b = w.heap.size + 1) := by have := Z2.out.lt; omega
    have q3 : ¬ (w.heap.size = b) := by omega
    have q4 : ¬ (w.heap.size + 1 = b) := by omega
    have q5 : ¬ (b = w3.heap.size) := by omega
    have hsz : (w3.setCell ⟨b, o + m * 4 + 3, none⟩ (.bool false)).heap.size = w3.heap.size := World.size_setCell _ _ _
    have ZB := Lib.hid ((((Z3.out.other (a := ⟨b, o + m * 4 + 3, none⟩) q4 (.bool false)).set 0 (.slice (some ⟨b, o, none⟩) l.length c9)).set 1 (.int .i64 F)).alloc (.cells #[.slice (some ⟨b, o, none⟩) l.length c9, .int .i64 F] 25))
    simp at ZB
    have RB := Lib.hid ((rowM_off (rowM_off HR4.out ⟨w.heap.size + 1, 0, none⟩ (.slice (some ⟨b, o, none⟩) l.length c9) fun x hx => by rw [List.mem_singleton.1 hx]; exact q2) ⟨w.heap.size + 1, 1, none⟩ (.int .i64 F) fun x hx => by rw [List.mem_singleton.1 hx]; exact q2).frame fun x hx => Below.heap_alloc (((w3.setCell ⟨b, o + m * 4 + 3, none⟩ (.bool false)).setCell ⟨w.heap.size + 1, 0, none⟩ (.slice (some ⟨b, o, none⟩) l.length c9)).setCell ⟨w.heap.size + 1, 1, none⟩ (.int .i64 F)) (.cells #[.slice (some ⟨b, o, none⟩) l.length c9, .int .i64 F] 25) x (by rw [List.mem_singleton.1 hx]; simp only [World.size_setCell]; exact hbb.2))
    have HBB := Lib.hid (show Below w.heap.size w ((((w3.setCell ⟨b, o + m * 4 + 3, none⟩ (.bool false)).setCell ⟨w.heap.size + 1, 0, none⟩ (.slice (some ⟨b, o, none⟩) l.length c9)).setCell ⟨w.heap.size + 1, 1, none⟩ (.int .i64 F)).alloc (.cells #[.slice (some ⟨b, o, none⟩) l.length c9, .int .i64 F] 25)) from (((HB3.out.setCell (p := ⟨b, o + m * 4 + 3, none⟩) (by show w.heap.size ≤ b; have := HB2.out.size; omega) (.bool false)).setCell (p := ⟨w.heap.size + 1, 0, none⟩) (Nat.le_add_right _ _) (.slice (some ⟨b, o, none⟩) l.length c9)).setCell (p := ⟨w.heap.size + 1, 1, none⟩) (Nat.le_add_right _ _) (.int .i64 F)).alloc (by simp only [World.size_setCell]; exact HB3.out.size) _)
    have hbE : b < ((((w3.setCell ⟨b, o + m * 4 + 3, none⟩ (.bool false)).setCell ⟨w.heap.size + 1, 0, none⟩ (.slice (some ⟨b, o, none⟩) l.length c9)).setCell ⟨w.heap.size + 1, 1, none⟩ (.int .i64 F)).alloc (.cells #[.slice (some ⟨b, o, none⟩) l.length c9, .int .i64 F] 25)).heap.size := by rw [World.size_alloc]; simp only [World.size_setCell]; omega
    clear HR4 hsz
    go_wp2_with fail
    generalize ((((w3.setCell ⟨b, o + m * 4 + 3, none⟩ (.bool false)).setCell ⟨w.heap.size + 1, 0, none⟩ (.slice (some ⟨b, o, none⟩) l.length c9)).setCell ⟨w.heap.size + 1, 1, none⟩ (.int .i64 F)).alloc (.cells #[.slice (some ⟨b, o, none⟩) l.length c9, .int .i64 F] 25)) = w9 at ZB RB HBB hbE ⊢
    have zz0 := ZB.out.cell 0
    have zz1 := ZB.out.cell 1
    simp at zz0 zz1
    exact bodyPost_ret (v := .tuple #[.agg #[.slice (some ⟨b, o, none⟩) l.length c9, .int .i64 F], .bool true]) (by simp [results, Try.results42, go_sem, zz0, zz1]) rfl ⟨_, _, by rw [HBT.out], by rw [HV.out]; exact tyQueue.mr (tyQueue_Mmk (D := (l.set m (setR (tA l m) false), F)) ⟨by rw [List.length_set], hn8, RB.out⟩) (fun x hx => by rw [List.mem_singleton.1 hx]; exact hbE), HBB.out⟩
  · have hb' : hasB (l, F) id = false := by simpa using hb
    have HBT := Lib.hid hb'
    have HV := Lib.hid (show slpD (l, F) id = qZ from (hasB_no hb').2.1)
    have hcase : qB (l, F) = false ∨ (qB (l, F) = true ∧ atI l id < 0) := by
      unfold hasB at hb'
      rcases Bool.and_eq_false_iff.1 hb' with h | h
      · exact Or.inl h
      · have h2 := of_decide_eq_false h
        dsimp only at h2
        cases hq : qB (l, F)
        · exact Or.inl rfl
        · exact Or.inr ⟨rfl, by omega⟩
    clear hb hb'
    rcases hcase with hq | ⟨hq, hk⟩
    · rw [hq]
      clear hq
      generalize atI l id = v
      go_wp2_with fail
      exact bodyPost_ret (v := .tuple #[.agg #[.slice none 0 0, .int .i64 0], .bool false]) (by simp [results, Try.results42, go_sem, z0, z1]) rfl ⟨_, _, by rw [HBT.out], by rw [HV.out]; exact qzR, (by repeat (first | exact HB2.out | exact Below.refl _ _ | refine Below.setCell ?_ (by first | exact Nat.le_refl _ | exact Nat.le_add_right _ _ | (simp only [World.size_alloc]; omega) | (simp only [World.size_setCell]; omega) | (simp only [World.size_alloc, World.size_setCell]; omega) | omega) _ | refine Below.alloc ?_ (by first | exact Nat.le_refl _ | exact Nat.le_add_right _ _ | (simp only [World.size_alloc]; omega) | (simp only [World.size_setCell]; omega) | (simp only [World.size_alloc, World.size_setCell]; omega) | omega) _ | refine Below.drew ?_))⟩
    · rw [hq]
      clear hq
      generalize atI l id = v at hk ⊢
      go_wp2_with fail
      exact bodyPost_ret (v := .tuple #[.agg #[.slice none 0 0, .int .i64 0], .bool false]) (by simp [results, Try.results42, go_sem, z0, z1]) rfl ⟨_, _, by rw [HBT.out], by rw [HV.out]; exact qzR, (by repeat (first | exact HB2.out | exact Below.refl _ _ | refine Below.setCell ?_ (by first | exact Nat.le_refl _ | exact Nat.le_add_right _ _ | (simp only [World.size_alloc]; omega) | (simp only [World.size_setCell]; omega) | (simp only [World.size_alloc, World.size_setCell]; omega) | omega) _ | refine Below.alloc ?_ (by first | exact Nat.le_refl _ | exact Nat.le_add_right _ _ | (simp only [World.size_alloc]; omega) | (simp only [World.size_setCell]; omega) | (simp only [World.size_alloc, World.size_setCell]; omega) | omega) _ | refine Below.drew ?_))⟩

set_option maxHeartbeats 2000000 in
set_option maxRecDepth 100000 in
theorem queueTick_s : QTikS 39 := by
  intro w hi x0 x1 D h hs hcq
  obtain ⟨A, n, c, hcs, hl, hn, hr⟩ := tyQueue_R h
  simp only [List.cons.injEq, and_true] at hcs
  obtain ⟨rfl, rfl⟩ := hcs
  obtain ⟨l, F⟩ := D
  dsimp only at hl hr ⊢
  have HR0 := Lib.hid h
  have HL := Lib.hid hl
  have HRT := Lib.hid (rowT hr)
  unfold maxLen at hn
  clear h hr hl
  unfold smallQueue at hs
  dsimp only at hs
  have HS := Lib.hid (show smallQueue (l, F) from hs)
  clear hs hcq
  have X0 := Lib.hid ((Box.new w #[.slice A n c, .int .i64 F] 25).alloc (.cells #[.slice none 0 0, .int .i64 0] 25))
  have Z0 := Lib.hid (Box.new (w.alloc (.cells #[.slice A n c, .int .i64 F] 25)) #[.slice none 0 0, .int .i64 0] 25)
  simp only [World.size_alloc] at Z0
  have HB0 := Lib.hid (show Below w.heap.size w ((w.alloc (.cells #[.slice A n c, .int .i64 F] 25)).alloc (.cells #[.slice none 0 0, .int .i64 0] 25)) from ((Below.refl _ _).alloc (Nat.le_refl _) _).alloc (by simp only [World.size_alloc]; omega) _)
  go_enter Try.func39, Try.ntmps39
  go_wp2_with fail
  refine (queueOk_any (Ty.below_w HR0.out HB0.out)).mono ?_
  rintro e w1 ⟨rfl, hb1⟩
  have HB1 := Lib.hid (HB0.out.trans (hb1.mono HB0.out.size))
  have X1 := Lib.hid (X0.out.below hb1 X0.out.lt)
  have Z1 := Lib.hid (Z0.out.below hb1 Z0.out.lt)
  clear hb1
  have p0 := X1.out.cell 0
  have p1 := X1.out.cell 1
  have pl := X1.out.lt
  have z0 := Z1.out.cell 0
  have z1 := Z1.out.cell 1
  have e0 := Z1.out.frz 0
  have e1 := Z1.out.frz 1
  have zl := Z1.out.lt
  simp at p0 p1 z0 z1
  by_cases hq : qB (l, F) = true
  · have HQ := Lib.hid hq
    have HT := Lib.hid (tik_yes hq)
    have HRG := Lib.hid (rng_of hq)
    have HID := Lib.hid (fun r => tk_id (r := r) hq)
    rw [hq]
    clear hq
    go_wp2_with fail
    refine (qCopy_any (Ty.below_w HR0.out HB1.out) HS.out).mono ?_
    rintro e w2 ⟨y0, y1, fp, rfl, hm, hf, _, hb2⟩
    clear p0 p1 pl z0 z1 e0 e1 zl
    have HB2 := Lib.hid (HB1.out.trans (hb2.mono HB1.out.size))
    have X2 := Lib.hid (X1.out.below hb2 X1.out.lt)
    have Z2 := Lib.hid (Z1.out.below hb2 Z1.out.lt)
    clear hb2
    have p0 := X2.out.cell 0
    have p1 := X2.out.cell 1
    have pl := X2.out.lt
    have z0 := Z2.out.cell 0
    have z1 := Z2.out.cell 1
    have e0 := Z2.out.frz 0
    have e1 := Z2.out.frz 1
    have zl := Z2.out.lt
    simp at p0 p1 z0 z1
    obtain ⟨A9, n9, c9, hcs⟩ := tyQueue_shM hm
    simp only [List.cons.injEq, and_true] at hcs
    obtain ⟨rfl, rfl⟩ := hcs
    have HM := Lib.hid hm
    have HF := Lib.hid hf
    clear hm hf
    go_wp2_with fail
    refine (qTick_any HM.out (fun b hb => (HF.out b hb).2) HRG.out).mono ?_
    rintro e w3 ⟨rfl, hm, ht⟩
    clear p0 p1 pl z0 z1 e0 e1 zl
    have HM3 := Lib.hid hm
    have HG := Lib.hid (show ∀ b ∈ fp, w1.heap.size ≤ b ∧ b < w3.heap.size from fun b hb => ⟨(HF.out b hb).1, Nat.lt_of_lt_of_le (HF.out b hb).2 ht.size⟩)
    have HB3 := Lib.hid (HB2.out.trans (ht.below HB2.out.size fun b hb => by have := (HF.out b hb).1; have := HB1.out.size; omega))
    have X3 := Lib.hid (ht.box X2.out fun hb => by have := (HF.out _ hb).1; have := X1.out.lt; omega)
    have Z3 := Lib.hid (ht.box Z2.out fun hb => by have := (HF.out _ hb).1; have := Z1.out.lt; omega)
    clear hm ht
    have hT : tkR (l, F) = match tickD (l, F) with | none => ((l, F), -1) | some r => r := rfl
    cases htk : tickD (l, F) with
    | none =>
      rw [htk] at hT HT
      have HV := Lib.hid (show tikO (l, F) = none ∧ tikD (l, F) = qZ ∧ tikI (l, F) = -1 from ⟨HT.out, by unfold tikD; rw [HT.out], by unfold tikI; rw [HT.out]⟩)
      dsimp only at hT
      rw [hT]
      clear hT htk
      have p0 := X3.out.cell 0
      have p1 := X3.out.cell 1
      have pl := X3.out.lt
      have z0 := Z3.out.cell 0
      have z1 := Z3.out.cell 1
      have e0 := Z3.out.frz 0
      have e1 := Z3.out.frz 1
      have zl := Z3.out.lt
      simp at p0 p1 z0 z1
      have ZB := Lib.hid (((Z3.out.set 0 (.slice none 0 0)).set 1 (.int .i64 0)).alloc (.cells #[.slice A9 n9 c9, .int .i64 F] 25))
      simp at ZB
      have HBB := Lib.hid (show Below w.heap.size w (((w3.setCell ⟨w.heap.size + 1, 0, none⟩ (.slice none 0 0)).setCell ⟨w.heap.size + 1, 1, none⟩ (.int .i64 0)).alloc (.cells #[.slice A9 n9 c9, .int .i64 F] 25)) from ((HB3.out.setCell (p := ⟨w.heap.size + 1, 0, none⟩) (Nat.le_add_right _ _) (.slice none 0 0)).setCell (p := ⟨w.heap.size + 1, 1, none⟩) (Nat.le_add_right _ _) (.int .i64 0)).alloc (by simp only [World.size_setCell]; exact HB3.out.size) _)
      go_wp2_with fail
      generalize (((w3.setCell ⟨w.heap.size + 1, 0, none⟩ (.slice none 0 0)).setCell ⟨w.heap.size + 1, 1, none⟩ (.int .i64 0)).alloc (.cells #[.slice A9 n9 c9, .int .i64 F] 25)) = w9 at ZB HBB ⊢
      have zz0 := ZB.out.cell 0
      have zz1 := ZB.out.cell 1
      simp at zz0 zz1
      exact bodyPost_ret (v := .tuple #[.agg #[.slice none 0 0, .int .i64 0], .int .i64 (-1), .bool false]) (by simp [results, Try.results39, go_sem, zz0, zz1]) rfl ⟨_, _, by rw [HV.out.1, HV.out.2.2]; rfl, by rw [HV.out.2.1]; exact qzR, HBB.out⟩
    | some r =>
      rw [htk] at hT HT
      have hid := HID.out r htk
      obtain ⟨⟨l2, F2⟩, i2⟩ := r
      have HV := Lib.hid (show (tikO (l, F)).isSome = true ∧ tikD (l, F) = (l2, F2) ∧ tikI (l, F) = i2 from ⟨by rw [HT.out]; rfl, by unfold tikD; rw [HT.out], by unfold tikI; rw [HT.out]⟩)
      dsimp only at hT hid
      rw [hT] at HM3 ⊢
      have hid2 : ¬ (i2 < 0) := by omega
      clear hT htk hid
      dsimp only at HM3 ⊢
      have p0 := X3.out.cell 0
      have p1 := X3.out.cell 1
      have pl := X3.out.lt
      have z0 := Z3.out.cell 0
      have z1 := Z3.out.cell 1
      have e0 := Z3.out.frz 0
      have e1 := Z3.out.frz 1
      have zl := Z3.out.lt
      simp at p0 p1 z0 z1
      have ZB := Lib.hid (((Z3.out.set 0 (.slice A9 n9 c9)).set 1 (.int .i64 F2)).alloc (.cells #[.slice A9 n9 c9, .int .i64 F2] 25))
      simp at ZB
      have HBB := Lib.hid (show Below w.heap.size w (((w3.setCell ⟨w.heap.size + 1, 0, none⟩ (.slice A9 n9 c9)).setCell ⟨w.heap.size + 1, 1, none⟩ (.int .i64 F2)).alloc (.cells #[.slice A9 n9 c9, .int .i64 F2] 25)) from ((HB3.out.setCell (p := ⟨w.heap.size + 1, 0, none⟩) (Nat.le_add_right _ _) (.slice A9 n9 c9)).setCell (p := ⟨w.heap.size + 1, 1, none⟩) (Nat.le_add_right _ _) (.int .i64 F2)).alloc (by simp only [World.size_setCell]; exact HB3.out.size) _)
      have RB := Lib.hid (show tyQueue.M (((w3.setCell ⟨w.heap.size + 1, 0, none⟩ (.slice A9 n9 c9)).setCell ⟨w.heap.size + 1, 1, none⟩ (.int .i64 F2)).alloc (.cells #[.slice A9 n9 c9, .int .i64 F2] 25)) fp _ _ from tyQueue.mframe HM3.out fun b hb => (Below.heap_alloc ((w3.setCell ⟨w.heap.size + 1, 0, none⟩ (.slice A9 n9 c9)).setCell ⟨w.heap.size + 1, 1, none⟩ (.int .i64 F2)) (.cells #[.slice A9 n9 c9, .int .i64 F2] 25) b (by simp only [World.size_setCell]; exact (HG.out b hb).2)).trans ((heap_setCell_other _ _ _ _ (by have h1 := (HG.out b hb).1; have h2 := Z1.out.lt; show b ≠ w.heap.size + 1; omega)).trans (heap_setCell_other _ _ _ _ (by have h1 := (HG.out b hb).1; have h2 := Z1.out.lt; show b ≠ w.heap.size + 1; omega))))
      have HGE := Lib.hid (show ∀ b ∈ fp, b < w3.heap.size from fun b hb => (HG.out b hb).2)
      have hsE : (((w3.setCell ⟨w.heap.size + 1, 0, none⟩ (.slice A9 n9 c9)).setCell ⟨w.heap.size + 1, 1, none⟩ (.int .i64 F2)).alloc (.cells #[.slice A9 n9 c9, .int .i64 F2] 25)).heap.size = w3.heap.size + 1 := by rw [World.size_alloc]; simp only [World.size_setCell]
      go_wp2_with fail
      generalize (((w3.setCell ⟨w.heap.size + 1, 0, none⟩ (.slice A9 n9 c9)).setCell ⟨w.heap.size + 1, 1, none⟩ (.int .i64 F2)).alloc (.cells #[.slice A9 n9 c9, .int .i64 F2] 25)) = w9 at ZB HBB RB hsE ⊢
      have zz0 := ZB.out.cell 0
      have zz1 := ZB.out.cell 1
      simp at zz0 zz1
      exact bodyPost_ret (v := .tuple #[.agg #[.slice A9 n9 c9, .int .i64 F2], .int .i64 i2, .bool true]) (by simp [results, Try.results39, go_sem, zz0, zz1]) rfl ⟨_, _, by rw [HV.out.1, HV.out.2.2], by rw [HV.out.2.1]; exact tyQueue.mr RB.out fun b hb => by rw [hsE]; have := HGE.out b hb; omega, HBB.out⟩
  · have hq' : qB (l, F) = false := by simpa using hq
    have HV := Lib.hid (tik_no hq')
    rw [hq']
    clear hq hq'
    go_wp2_with fail
    exact bodyPost_ret (v := .tuple #[.agg #[.slice none 0 0, .int .i64 0], .int .i64 (-1), .bool false]) (by simp [results, Try.results39, go_sem, z0, z1]) rfl ⟨_, _, by rw [HV.out.1, HV.out.2.2]; rfl, by rw [HV.out.2.1]; exact qzR, (by repeat (first | exact HB1.out | exact Below.refl _ _ | refine Below.setCell ?_ (by first | exact Nat.le_refl _ | exact Nat.le_add_right _ _ | (simp only [World.size_alloc]; omega) | (simp only [World.size_setCell]; omega) | (simp only [World.size_alloc, World.size_setCell]; omega) | omega) _ | refine Below.alloc ?_ (by first | exact Nat.le_refl _ | exact Nat.le_add_right _ _ | (simp only [World.size_alloc]; omega) | (simp only [World.size_setCell]; omega) | (simp only [World.size_alloc, World.size_setCell]; omega) | omega) _ | refine Below.drew ?_))⟩
end
end Go.Proofs.Ytagggajlpmdpdaa
