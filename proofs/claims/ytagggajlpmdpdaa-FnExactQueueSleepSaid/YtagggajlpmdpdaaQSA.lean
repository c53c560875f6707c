/-
  The model's QueueAdd.
-/
import Derived.Test.YtagggajlpmdpdaaQS8
import Derived.Test.YtagggajlpmdpdaaQS4
namespace Go.Proofs.Ytagggajlpmdpdaa
open Go.RowKit

section
variable {w : World}
set_option maxHeartbeats 2000000 in
set_option maxRecDepth 100000 in
theorem queueAdd_s : QAddS 30 := by
  intro w hi x0 x1 D id wt h hs hcq
  obtain ⟨A, n, c, hcs, hl, hn, hr⟩ := tyQueue_R h
  simp only [List.cons.injEq, and_true] at hcs
  obtain ⟨rfl, rfl⟩ := hcs
  obtain ⟨l, F⟩ := D
  dsimp only at hl hr ⊢
  have HR0 := Lib.hid h
  have HL := Lib.hid hl
  have HRT := Lib.hid (rowT hr)
  unfold maxLen at hn
  clear h hr hl
  unfold smallQueue at hs
  dsimp only at hs
  have HS := Lib.hid (show smallQueue (l, F) from hs)
  clear hs hcq
  have HAB := Lib.hid (show addB (l, F) id wt = (qB (l, F) && (decide (atI l id < 0) && (decide (l.length < 6) && (inB id 0 99 && inB wt 1 6)))) from rfl)
  have HAD := Lib.hid (show addD (l, F) id wt = if addB (l, F) id wt = true then (addL ⟨id, wt, F, true⟩ l, F) else qZ from rfl)
  have X0 := Lib.hid ((Box.new w #[.slice A n c, .int .i64 F] 25).alloc (.cells #[.slice none 0 0, .int .i64 0] 25))
  have Z0 := Lib.hid (Box.new (w.alloc (.cells #[.slice A n c, .int .i64 F] 25)) #[.slice none 0 0, .int .i64 0] 25)
  simp only [World.size_alloc] at Z0
  have HB0 := Lib.hid (show Below w.heap.size w ((w.alloc (.cells #[.slice A n c, .int .i64 F] 25)).alloc (.cells #[.slice none 0 0, .int .i64 0] 25)) from ((Below.refl _ _).alloc (Nat.le_refl _) _).alloc (by simp only [World.size_alloc]; omega) _)
  go_enter Try.func30, Try.ntmps30
  go_wp2_with fail
  refine (queueOk_any (Ty.below_w HR0.out HB0.out)).mono ?_
  rintro e w1 ⟨rfl, hb1⟩
  have HB1 := Lib.hid (HB0.out.trans (hb1.mono HB0.out.size))
  have X1 := Lib.hid (X0.out.below hb1 X0.out.lt)
  have Z1 := Lib.hid (Z0.out.below hb1 Z0.out.lt)
  clear hb1
  have p0 := X1.out.cell 0
  have p1 := X1.out.cell 1
  have pl := X1.out.lt
  have z0 := Z1.out.cell 0
  have z1 := Z1.out.cell 1
  have e0 := Z1.out.frz 0
  have e1 := Z1.out.frz 1
  have zl := Z1.out.lt
  simp at p0 p1 z0 z1
  by_cases hq : qB (l, F) = true
  case neg =>
    have hq' : qB (l, F) = false := by simpa using hq
    have HBT := Lib.hid (show addB (l, F) id wt = false by rw [HAB.out, hq']; rfl)
    rw [hq']
    clear hq hq'
    have HV := Lib.hid (show addD (l, F) id wt = qZ by rw [HAD.out, HBT.out]; rfl)
    go_wp2_with fail
    exact bodyPost_ret (v := .tuple #[.agg #[.slice none 0 0, .int .i64 0], .bool false]) (by simp [results, Try.results30, go_sem, z0, z1]) rfl ⟨_, _, by rw [HBT.out], by rw [HV.out]; exact qzR, (by repeat (first | exact HB1.out | exact Below.refl _ _ | refine Below.setCell ?_ (by first | exact Nat.le_refl _ | exact Nat.le_add_right _ _ | (simp only [World.size_alloc]; omega) | (simp only [World.size_setCell]; omega) | (simp only [World.size_alloc, World.size_setCell]; omega) | omega) _ | refine Below.alloc ?_ (by first | exact Nat.le_refl _ | exact Nat.le_add_right _ _ | (simp only [World.size_alloc]; omega) | (simp only [World.size_setCell]; omega) | (simp only [World.size_alloc, World.size_setCell]; omega) | omega) _ | refine Below.drew ?_))⟩
  have HQ := Lib.hid hq
  have hl6 := (qB_iff.1 hq).2.1
  dsimp only at hl6
  have HL6 := Lib.hid hl6
  rw [hq]
  clear hq
  go_wp2_with fail
  refine (qAt_any id (Ty.below_w HR0.out HB1.out)).mono ?_
  rintro e w2 ⟨rfl, hb2⟩
  clear p0 p1 pl z0 z1 e0 e1 zl
  have HB2 := Lib.hid (HB1.out.trans (hb2.mono HB1.out.size))
  have X2 := Lib.hid (X1.out.below hb2 X1.out.lt)
  have Z2 := Lib.hid (Z1.out.below hb2 Z1.out.lt)
  clear hb2
  have p0 := X2.out.cell 0
  have p1 := X2.out.cell 1
  have pl := X2.out.lt
  have z0 := Z2.out.cell 0
  have z1 := Z2.out.cell 1
  have e0 := Z2.out.frz 0
  have e1 := Z2.out.frz 1
  have zl := Z2.out.lt
  simp at p0 p1 z0 z1
  dsimp only
  by_cases hk : atI l id < 0
  case neg =>
    have HBT := Lib.hid (show addB (l, F) id wt = false by rw [HAB.out, HQ.out, decide_eq_false hk]; rfl)
    have hk2 : (0 : Int) ≤ atI l id := by omega
    generalize atI l id = v at hk hk2 ⊢
    have HV := Lib.hid (show addD (l, F) id wt = qZ by rw [HAD.out, HBT.out]; rfl)
    go_wp2_with fail
    exact bodyPost_ret (v := .tuple #[.agg #[.slice none 0 0, .int .i64 0], .bool false]) (by simp [results, Try.results30, go_sem, z0, z1]) rfl ⟨_, _, by rw [HBT.out], by rw [HV.out]; exact qzR, (by repeat (first | exact HB2.out | exact Below.refl _ _ | refine Below.setCell ?_ (by first | exact Nat.le_refl _ | exact Nat.le_add_right _ _ | (simp only [World.size_alloc]; omega) | (simp only [World.size_setCell]; omega) | (simp only [World.size_alloc, World.size_setCell]; omega) | omega) _ | refine Below.alloc ?_ (by first | exact Nat.le_refl _ | exact Nat.le_add_right _ _ | (simp only [World.size_alloc]; omega) | (simp only [World.size_setCell]; omega) | (simp only [World.size_alloc, World.size_setCell]; omega) | omega) _ | refine Below.drew ?_))⟩
  have HK := Lib.hid hk
  have hk2 : ¬ ((0 : Int) ≤ atI l id) := by omega
  by_cases h6 : l.length < 6
  case neg =>
    have HBT := Lib.hid (show addB (l, F) id wt = false by rw [HAB.out, HQ.out, decide_eq_true hk, decide_eq_false h6]; rfl)
    have h62 : (6 : Int) ≤ (n : Int) := by have := HL.out; omega
    generalize atI l id = v at hk hk2 ⊢
    have HV := Lib.hid (show addD (l, F) id wt = qZ by rw [HAD.out, HBT.out]; rfl)
    go_wp2_with fail
    exact bodyPost_ret (v := .tuple #[.agg #[.slice none 0 0, .int .i64 0], .bool false]) (by simp [results, Try.results30, go_sem, z0, z1]) rfl ⟨_, _, by rw [HBT.out], by rw [HV.out]; exact qzR, (by repeat (first | exact HB2.out | exact Below.refl _ _ | refine Below.setCell ?_ (by first | exact Nat.le_refl _ | exact Nat.le_add_right _ _ | (simp only [World.size_alloc]; omega) | (simp only [World.size_setCell]; omega) | (simp only [World.size_alloc, World.size_setCell]; omega) | omega) _ | refine Below.alloc ?_ (by first | exact Nat.le_refl _ | exact Nat.le_add_right _ _ | (simp only [World.size_alloc]; omega) | (simp only [World.size_setCell]; omega) | (simp only [World.size_alloc, World.size_setCell]; omega) | omega) _ | refine Below.drew ?_))⟩
  have H6 := Lib.hid h6
  have h62 : ¬ ((6 : Int) ≤ (n : Int)) := by have := HL.out; omega
  clear h6
  generalize atI l id = v at hk hk2 HK HAB ⊢
  go_wp2_with fail
  refine (l6In_any id 0 99 _).mono ?_
  rintro e w9 ⟨rfl, rfl⟩
  by_cases h7 : inB id 0 99 = true
  case neg =>
    have h7' : inB id 0 99 = false := by simpa using h7
    have HBT := Lib.hid (show addB (l, F) id wt = false by rw [HAB.out, HQ.out, decide_eq_true HK.out, decide_eq_true H6.out, h7']; rfl)
    rw [h7']
    clear h7 h7'
    have HV := Lib.hid (show addD (l, F) id wt = qZ by rw [HAD.out, HBT.out]; rfl)
    go_wp2_with fail
    exact bodyPost_ret (v := .tuple #[.agg #[.slice none 0 0, .int .i64 0], .bool false]) (by simp [results, Try.results30, go_sem, z0, z1]) rfl ⟨_, _, by rw [HBT.out], by rw [HV.out]; exact qzR, (by repeat (first | exact HB2.out | exact Below.refl _ _ | refine Below.setCell ?_ (by first | exact Nat.le_refl _ | exact Nat.le_add_right _ _ | (simp only [World.size_alloc]; omega) | (simp only [World.size_setCell]; omega) | (simp only [World.size_alloc, World.size_setCell]; omega) | omega) _ | refine Below.alloc ?_ (by first | exact Nat.le_refl _ | exact Nat.le_add_right _ _ | (simp only [World.size_alloc]; omega) | (simp only [World.size_setCell]; omega) | (simp only [World.size_alloc, World.size_setCell]; omega) | omega) _ | refine Below.drew ?_))⟩
  have H7 := Lib.hid h7
  rw [h7]
  clear h7
  go_wp2_with fail
  refine (l6In_any wt 1 6 _).mono ?_
  rintro e w9 ⟨rfl, rfl⟩
  by_cases h8 : inB wt 1 6 = true
  case neg =>
    have h8' : inB wt 1 6 = false := by simpa using h8
    have HBT := Lib.hid (show addB (l, F) id wt = false by rw [HAB.out, HQ.out, decide_eq_true HK.out, decide_eq_true H6.out, H7.out, h8']; rfl)
    rw [h8']
    clear h8 h8'
    have HV := Lib.hid (show addD (l, F) id wt = qZ by rw [HAD.out, HBT.out]; rfl)
    go_wp2_with fail
    exact bodyPost_ret (v := .tuple #[.agg #[.slice none 0 0, .int .i64 0], .bool false]) (by simp [results, Try.results30, go_sem, z0, z1]) rfl ⟨_, _, by rw [HBT.out], by rw [HV.out]; exact qzR, (by repeat (first | exact HB2.out | exact Below.refl _ _ | refine Below.setCell ?_ (by first | exact Nat.le_refl _ | exact Nat.le_add_right _ _ | (simp only [World.size_alloc]; omega) | (simp only [World.size_setCell]; omega) | (simp only [World.size_alloc, World.size_setCell]; omega) | omega) _ | refine Below.alloc ?_ (by first | exact Nat.le_refl _ | exact Nat.le_add_right _ _ | (simp only [World.size_alloc]; omega) | (simp only [World.size_setCell]; omega) | (simp only [World.size_alloc, World.size_setCell]; omega) | omega) _ | refine Below.drew ?_))⟩
  have HBT := Lib.hid (show addB (l, F) id wt = true by rw [HAB.out, HQ.out, decide_eq_true HK.out, decide_eq_true H6.out, H7.out, h8]; rfl)
  have HV := Lib.hid (show addD (l, F) id wt = (addL ⟨id, wt, F, true⟩ l, F) by rw [HAD.out, HBT.out]; rfl)
  rw [h8]
  clear h8 hk hk2 h62
  go_wp2_with fail
  have HB3 := Lib.hid HB2.out.drew
  have X3 := Lib.hid (show Box w2.drew _ _ _ from X2.out)
  have Z3 := Lib.hid (show Box w2.drew _ _ _ from Z2.out)
  clear p0 p1 pl z0 z1 e0 e1 zl
  refine wp_region_held_drew (S := fun w' => w'.cell? ⟨w.heap.size, 0, none⟩ = some (.slice A n c) ∧ w'.cell? ⟨w.heap.size, 1, none⟩ = some (.int .i64 F)) (by kernel_rfl) ⟨X3.out.cell 0, X3.out.cell 1⟩ (fun hHeld => ?_)
  generalize w2.drew = w3 at HB3 X3 Z3 hHeld ⊢
  refine wpAnyH_take (i := 0) (v := ?va0) rfl (by kernel_rfl) (by kernel_rfl) (by kernel_rfl) (fun _ _ _ h => h) (Or.inl ⟨by rfl, ?hya0⟩) (by assumption) ?resta0
  case hya0 =>
    intro w hSw
    try dsimp only at hSw
    go_simp
    try with_reducible rfl
  simp only [Act.put, List.setIfInBounds_toArray, List.set_cons_zero, List.set_cons_succ, List.getElem_toArray, List.getElem_cons_zero]
  refine wpAnyH_take (i := 2) (v := ?va2) rfl (by kernel_rfl) (by kernel_rfl) (by kernel_rfl) (fun _ _ _ h => h) (Or.inl ⟨by rfl, ?hya2⟩) (by assumption) ?resta2
  case hya2 =>
    intro w hSw
    try dsimp only at hSw
    go_simp
    try with_reducible rfl
  simp only [Act.put, List.setIfInBounds_toArray, List.set_cons_zero, List.set_cons_succ, List.getElem_toArray, List.getElem_cons_zero, List.getElem_cons_succ]
  refine wpAnyH_take (i := 3) (v := ?va3) rfl (by kernel_rfl) (by kernel_rfl) (by kernel_rfl) (fun _ _ _ h => h) (Or.inl ⟨by rfl, ?hya3⟩) (by assumption) ?resta3
  case hya3 =>
    intro w hSw
    try dsimp only at hSw
    go_simp
    try with_reducible rfl
  simp only [Act.put, List.setIfInBounds_toArray, List.set_cons_zero, List.set_cons_succ, List.getElem_toArray, List.getElem_cons_zero, List.getElem_cons_succ]
  refine wpAnyH_take (i := 4) (v := ?va4) rfl (by kernel_rfl) (by kernel_rfl) (by kernel_rfl) (fun _ _ _ h => h) (Or.inl ⟨by rfl, ?hya4⟩) (by assumption) ?resta4
  case hya4 =>
    intro w hSw
    try dsimp only at hSw
    go_simp
    try with_reducible rfl
  simp only [Act.put, List.setIfInBounds_toArray, List.set_cons_zero, List.set_cons_succ, List.getElem_toArray, List.getElem_cons_zero, List.getElem_cons_succ]
  refine wpAnyH_take (i := 5) (v := ?va5) rfl (by kernel_rfl) (by kernel_rfl) (by kernel_rfl) (fun _ _ _ h => h) (Or.inl ⟨by rfl, ?hya5⟩) (by assumption) ?resta5
  case hya5 =>
    intro w hSw
    try dsimp only at hSw
    go_simp
    try with_reducible rfl
  simp only [Act.put, List.setIfInBounds_toArray, List.set_cons_zero, List.set_cons_succ, List.getElem_toArray, List.getElem_cons_zero, List.getElem_cons_succ]
  refine wpAnyH_take (i := 6) (v := ?va6) rfl (by kernel_rfl) (by kernel_rfl) (by kernel_rfl) (fun _ _ _ h => h) (Or.inl ⟨by rfl, ?hya6⟩) (by assumption) ?resta6
  case hya6 =>
    intro w hSw
    try dsimp only at hSw
    go_simp
    try with_reducible rfl
  simp only [Act.put, List.setIfInBounds_toArray, List.set_cons_zero, List.set_cons_succ, List.getElem_toArray, List.getElem_cons_zero, List.getElem_cons_succ]
  refine wpAnyH_ready (rs := [1]) (by kernel_rfl) (by simp) ?_
  refine AllReadyH.cons rfl (fun K hK => ?_) AllReadyH.nil
  go_simp
  go_at_call 72
  refine (qCopy_any (Ty.below_w HR0.out HB3.out) HS.out).mono ?_
  rintro e w4 ⟨y0, y1, fp, rfl, hm, hf, _, hb4⟩
  obtain ⟨A9, n9, c9, hcs⟩ := tyQueue_shM hm
  simp only [List.cons.injEq, and_true] at hcs
  obtain ⟨rfl, rfl⟩ := hcs
  have HM := Lib.hid hm
  have HF := Lib.hid hf
  clear hm hf
  have HB4 := Lib.hid (HB3.out.trans (hb4.mono HB3.out.size))
  have X4 := Lib.hid (X3.out.below hb4 X3.out.lt)
  have Z4 := Lib.hid (Z3.out.below hb4 Z3.out.lt)
  clear hb4
  refine hK.out _ _ ?_ (fun hHeld => ?_)
  · exact ⟨X4.out.cell 0, X4.out.cell 1⟩
  clear hK K
  try simp only [Act.put, List.setIfInBounds_toArray, List.set_cons_zero, List.set_cons_succ, List.getElem_toArray, List.getElem_cons_zero, List.getElem_cons_succ]
  refine wpAnyH_ready (rs := [7]) (by kernel_rfl) (by simp) ?_
  refine AllReadyH.cons rfl (fun K hK => ?_) AllReadyH.nil
  go_simp
  go_at_call 71
  refine (qAdd_any ⟨id, wt, F, true⟩ (tyQueue.mr HM.out fun b hb => (HF.out b hb).2) (by have := HL6.out; (try dsimp only); omega)).mono ?_
  rintro e w5 ⟨y0, y1, fq, rfl, hm, hf, _, hb5⟩
  obtain ⟨A8, n8, c8, hcs⟩ := tyQueue_shM hm
  simp only [List.cons.injEq, and_true] at hcs
  obtain ⟨rfl, rfl⟩ := hcs
  have HM5 := Lib.hid hm
  have HF5 := Lib.hid hf
  have HB5 := Lib.hid (HB4.out.trans (hb5.mono HB4.out.size))
  have X5 := Lib.hid (X4.out.below hb5 X4.out.lt)
  have Z5 := Lib.hid (Z4.out.below hb5 Z4.out.lt)
  clear hm hf hb5
  refine hK.out _ _ ?_ (fun hHeld => ?_)
  · exact ⟨X5.out.cell 0, X5.out.cell 1⟩
  clear hK K
  try simp only [Act.put, List.setIfInBounds_toArray, List.set_cons_zero, List.set_cons_succ, List.getElem_toArray, List.getElem_cons_zero, List.getElem_cons_succ]
  refine wpAnyH_ready (rs := [8]) (by kernel_rfl) (by simp) ?_
  refine AllReadyH.cons rfl (fun K hK => ?_) AllReadyH.nil
  have z0 := Z5.out.cell 0
  have z1 := Z5.out.cell 1
  have e0 := Z5.out.frz 0
  have e1 := Z5.out.frz 1
  have zl := Z5.out.lt
  simp at z0 z1
  go_simp
  have y1 := ((X5.out.other (a := ⟨w.heap.size + 1, 0, none⟩) (by show w.heap.size ≠ w.heap.size + 1; omega) (.slice A8 n8 c8)).other (a := ⟨w.heap.size + 1, 1, none⟩) (by show w.heap.size ≠ w.heap.size + 1; omega) (.int .i64 F))
  refine hK.out _ _ ?_ (fun hHeld => ?_)
  · exact ⟨y1.cell 0, y1.cell 1⟩
  clear hK K
  try simp only [Act.put, List.setIfInBounds_toArray, List.set_cons_zero, List.set_cons_succ, List.getElem_toArray, List.getElem_cons_zero, List.getElem_cons_succ]
  refine wpAnyH_take (i := 9) (v := ?va9) rfl (by kernel_rfl) (by kernel_rfl) (by kernel_rfl) (fun _ _ _ h => h) (Or.inl ⟨by rfl, ?hya9⟩) (by assumption) ?resta9
  case hya9 =>
    intro w hSw
    try dsimp only at hSw
    go_simp
    try with_reducible rfl
  simp only [Act.put, List.setIfInBounds_toArray, List.set_cons_zero, List.set_cons_succ, List.getElem_toArray, List.getElem_cons_zero, List.getElem_cons_succ]
  refine wpAnyH_done (by kernel_rfl) ?_ _
  clear y1
  go_wp2_with fail
  exact bodyPost_ret (v := .tuple #[.agg #[.slice A8 n8 c8, .int .i64 F], .bool true]) (by simp [results, Try.results30, go_sem, z0, z1]) rfl ⟨_, _, by rw [HBT.out], by rw [HV.out]; exact laidR HM5.out (fun b hb => ⟨(HF5.out b hb).2, by have h1 := (HF5.out b hb).1; have h2 := Z4.out.lt; omega⟩) _ _, (by repeat (first | exact HB5.out | exact Below.refl _ _ | refine Below.setCell ?_ (by first | exact Nat.le_refl _ | exact Nat.le_add_right _ _ | (simp only [World.size_alloc]; omega) | (simp only [World.size_setCell]; omega) | (simp only [World.size_alloc, World.size_setCell]; omega) | omega) _ | refine Below.alloc ?_ (by first | exact Nat.le_refl _ | exact Nat.le_add_right _ _ | (simp only [World.size_alloc]; omega) | (simp only [World.size_setCell]; omega) | (simp only [World.size_alloc, World.size_setCell]; omega) | omega) _ | refine Below.drew ?_))⟩
end
end Go.Proofs.Ytagggajlpmdpdaa
