/-
  The model's QueueNext, QueueLess, QueueWake.
-/
import Derived.Test.YtagggajlpmdpdaaQS1
import Derived.Test.YtagggajlpmdpdaaQS5
import Derived.Test.YtagggajlpmdpdaaQS7
namespace Go.Proofs.Ytagggajlpmdpdaa
open Go.RowKit

theorem qzR {w : World} {hi : Nat} : tyQueue.R w hi [.slice none 0 0, .int .i64 0] qZ := tyQueue_Rmk (D := ([], 0)) ⟨rfl, Nat.zero_le _, fun h => absurd h (Nat.lt_irrefl 0)⟩
theorem hasB_no {D : Qu} {id : Int} (h : hasB D id = false) : lesD D id = qZ ∧ slpD D id = qZ ∧ wakD D id = qZ := by unfold lesD slpD wakD; rw [h]; exact ⟨rfl, rfl, rfl⟩
/-- a struct answered is laid in the box of the result -/
theorem laidR {w' : World} {z : Nat} {fp : List Nat} {y0 y1 : Value} {D : Qu} (h : tyQueue.M w' fp [y0, y1] D) (hf : ∀ b ∈ fp, b < w'.heap.size ∧ b ≠ z) (v0 v1 : Value) : tyQueue.R ((w'.setCell ⟨z, 0, none⟩ v0).setCell ⟨z, 1, none⟩ v1) ((w'.setCell ⟨z, 0, none⟩ v0).setCell ⟨z, 1, none⟩ v1).heap.size [y0, y1] D := by
  have h2 : tyQueue.M ((w'.setCell ⟨z, 0, none⟩ v0).setCell ⟨z, 1, none⟩ v1) fp [y0, y1] D := tyQueue.mframe h fun b hb => (heap_setCell_other _ _ _ _ (hf b hb).2).trans (heap_setCell_other _ _ _ _ (hf b hb).2)
  exact tyQueue.mr h2 fun b hb => by rw [World.size_setCell, World.size_setCell]; exact (hf b hb).1

section
variable {w : World}
set_option maxHeartbeats 2000000 in
set_option maxRecDepth 100000 in
theorem queueNext_any : QNxt 36 := by
  intro w hi x0 x1 D h
  obtain ⟨A, n, c, hcs, hl, hn, hr⟩ := tyQueue_R h
  simp only [List.cons.injEq, and_true] at hcs
  obtain ⟨rfl, rfl⟩ := hcs
  obtain ⟨l, F⟩ := D
  dsimp only at hl hr ⊢
  have HR0 := Lib.hid h
  have HL := Lib.hid hl
  have HRT := Lib.hid (rowT hr)
  unfold maxLen at hn
  clear h hr hl
  have X0 := Lib.hid (Box.new w #[.slice A n c, .int .i64 F] 25)
  have HB0 := Lib.hid (show Below w.heap.size w (w.alloc (.cells #[.slice A n c, .int .i64 F] 25)) from (Below.refl _ _).alloc (Nat.le_refl _) _)
  go_enter Try.func36, Try.ntmps36
  go_wp2_with fail
  refine (qNext_any (Ty.below_w HR0.out HB0.out)).mono ?_
  rintro e w1 ⟨rfl, hb1⟩
  have HB1 := Lib.hid (HB0.out.trans (hb1.mono HB0.out.size))
  have X1 := Lib.hid (X0.out.below hb1 X0.out.lt)
  clear hb1
  have p0 := X1.out.cell 0
  have p1 := X1.out.cell 1
  have pl := X1.out.lt
  simp at p0 p1
  go_wp2_with fail
  refine (queueOk_any (Ty.below_w HR0.out HB1.out)).mono ?_
  rintro e w2 ⟨rfl, hb2⟩
  clear p0 p1 pl
  have HB2 := Lib.hid (HB1.out.trans (hb2.mono HB1.out.size))
  have X2 := Lib.hid (X1.out.below hb2 X1.out.lt)
  clear hb2
  have p0 := X2.out.cell 0
  have p1 := X2.out.cell 1
  have pl := X2.out.lt
  simp at p0 p1
  have HQ := Lib.hid (show nxtR (l, F) = if qB (l, F) = true then (if nxI l < 0 then -1 else (tA l (nxI l).toNat).f0) else -1 from rfl)
  by_cases hq : qB (l, F) = true
  · rw [hq, if_pos rfl] at HQ
    rw [hq]
    clear hq
    dsimp only
    by_cases hk : nxI l < 0
    · rw [if_pos hk] at HQ
      go_wp2_with fail
      go_ret
      exact ⟨by rw [HQ.out]; rfl, HB2.out⟩
    · rw [if_neg hk] at HQ
      obtain ⟨m, hm⟩ : ∃ m : Nat, nxI l = m := ⟨(nxI l).toNat, by omega⟩
      have hml : m < n := by have h := (nx_lt l l.length).2; rw [show nxTo l l.length = m from hm, HL.out] at h; omega
      rw [hm, Int.toNat_natCast] at HQ
      rw [hm]
      obtain ⟨b, o, rfl, hb0, hc⟩ := HRT.out (by omega)
      have c0 := ((hc m hml).below HB2.out hb0).c0
      have hk1 : (m : Int) < (n : Int) := by omega
      have hk2 : (0 : Int) ≤ (m : Int) := by omega
      have hk3 : ¬ ((m : Int) < 0) := by omega
      clear hk hm hc
      try dsimp only at c0 HQ
      generalize (tA l m).f0 = v at c0 HQ
      go_wp2_with fail
      go_ret
      exact ⟨by rw [HQ.out]; rfl, HB2.out⟩
  · have hq' : qB (l, F) = false := by simpa using hq
    rw [hq', if_neg Bool.false_ne_true] at HQ
    rw [hq']
    clear hq hq'
    go_wp2_with fail
    go_ret
    exact ⟨by rw [HQ.out]; rfl, HB2.out⟩

set_option maxHeartbeats 2000000 in
set_option maxRecDepth 100000 in
theorem queueLess_s : QLesS 33 := by
  intro w hi x0 x1 D id h hs hcq
  obtain ⟨A, n, c, hcs, hl, hn, hr⟩ := tyQueue_R h
  simp only [List.cons.injEq, and_true] at hcs
  obtain ⟨rfl, rfl⟩ := hcs
  obtain ⟨l, F⟩ := D
  dsimp only at hl hr ⊢
  have HR0 := Lib.hid h
  have HL := Lib.hid hl
  have HRT := Lib.hid (rowT hr)
  unfold maxLen at hn
  clear h hr hl
  unfold smallQueue at hs
  dsimp only at hs
  have HS := Lib.hid (show smallQueue (l, F) from hs)
  have HCQ := Lib.hid hcq
  clear hs hcq
  have X0 := Lib.hid ((Box.new w #[.slice A n c, .int .i64 F] 25).alloc (.cells #[.slice none 0 0, .int .i64 0] 25))
  have Z0 := Lib.hid (Box.new (w.alloc (.cells #[.slice A n c, .int .i64 F] 25)) #[.slice none 0 0, .int .i64 0] 25)
  simp only [World.size_alloc] at Z0
  have HB0 := Lib.hid (show Below w.heap.size w ((w.alloc (.cells #[.slice A n c, .int .i64 F] 25)).alloc (.cells #[.slice none 0 0, .int .i64 0] 25)) from ((Below.refl _ _).alloc (Nat.le_refl _) _).alloc (by simp only [World.size_alloc]; omega) _)
  go_enter Try.func33, Try.ntmps33
  go_wp2_with fail
  refine (qAt_any id (Ty.below_w HR0.out HB0.out)).mono ?_
  rintro e w1 ⟨rfl, hb1⟩
  have HB1 := Lib.hid (HB0.out.trans (hb1.mono HB0.out.size))
  have X1 := Lib.hid (X0.out.below hb1 X0.out.lt)
  have Z1 := Lib.hid (Z0.out.below hb1 Z0.out.lt)
  clear hb1
  have p0 := X1.out.cell 0
  have p1 := X1.out.cell 1
  have pl := X1.out.lt
  have z0 := Z1.out.cell 0
  have z1 := Z1.out.cell 1
  have e0 := Z1.out.frz 0
  have e1 := Z1.out.frz 1
  have zl := Z1.out.lt
  simp at p0 p1 z0 z1
  go_wp2_with fail
  refine (queueOk_any (Ty.below_w HR0.out HB1.out)).mono ?_
  rintro e w2 ⟨rfl, hb2⟩
  clear p0 p1 pl z0 z1 e0 e1 zl
  have HB2 := Lib.hid (HB1.out.trans (hb2.mono HB1.out.size))
  have X2 := Lib.hid (X1.out.below hb2 X1.out.lt)
  have Z2 := Lib.hid (Z1.out.below hb2 Z1.out.lt)
  clear hb2
  have p0 := X2.out.cell 0
  have p1 := X2.out.cell 1
  have pl := X2.out.lt
  have z0 := Z2.out.cell 0
  have z1 := Z2.out.cell 1
  have e0 := Z2.out.frz 0
  have e1 := Z2.out.frz 1
  have zl := Z2.out.lt
  simp at p0 p1 z0 z1
  dsimp only
  by_cases hb : hasB (l, F) id = true
  · have hb2 := hb
    unfold hasB at hb2
    rw [Bool.and_eq_true, decide_eq_true_eq] at hb2
    obtain ⟨hq, hk⟩ := hb2
    have HV := Lib.hid (show lesD (l, F) id = _ from by unfold lesD; rw [hb, if_pos rfl])
    obtain ⟨m, hm, hml, _, _⟩ := at_lt hk
    have hsm := qB_iff.1 hq
    rw [hq, hm]
    rw [hm, Int.toNat_natCast] at HV
    have HLN := Lib.hid hsm.2.1
    have HBT := Lib.hid hb
    have hk3 : ¬ ((m : Int) < 0) := by omega
    have HML := Lib.hid hml
    clear hb hq hk hm hsm hml
    go_wp2_with fail
    refine (qLess_any _ (Ty.below_w HR0.out HB2.out) HCQ.out HML.out (by have := HLN.out; (try dsimp only at this ⊢); omega)).mono ?_
    rintro e w3 ⟨y0, y1, fp, rfl, hm, hf, _, hb3⟩
    clear p0 p1 pl z0 z1 e0 e1 zl
    have HB3 := Lib.hid (HB2.out.trans (hb3.mono HB2.out.size))
    have X3 := Lib.hid (X2.out.below hb3 X2.out.lt)
    have Z3 := Lib.hid (Z2.out.below hb3 Z2.out.lt)
    clear hb3
    have p0 := X3.out.cell 0
    have p1 := X3.out.cell 1
    have pl := X3.out.lt
    have z0 := Z3.out.cell 0
    have z1 := Z3.out.cell 1
    have e0 := Z3.out.frz 0
    have e1 := Z3.out.frz 1
    have zl := Z3.out.lt
    simp at p0 p1 z0 z1
    obtain ⟨A9, n9, c9, hcs⟩ := tyQueue_shM hm
    simp only [List.cons.injEq, and_true] at hcs
    obtain ⟨rfl, rfl⟩ := hcs
    have HM := Lib.hid hm
    have HF := Lib.hid hf
    clear hm hf
    go_wp2_with fail
    exact bodyPost_ret (v := .tuple #[.agg #[.slice A9 n9 c9, .int .i64 F], .bool true]) (by simp [results, Try.results33, go_sem, z0, z1]) rfl ⟨_, _, by rw [HBT.out], by rw [HV.out]; exact laidR HM.out (fun b hb => ⟨(HF.out b hb).2, by have h1 := (HF.out b hb).1; have h2 := Z2.out.lt; omega⟩) _ _, (by repeat (first | exact HB3.out | exact Below.refl _ _ | refine Below.setCell ?_ (by first | exact Nat.le_refl _ | exact Nat.le_add_right _ _ | (simp only [World.size_alloc]; omega) | (simp only [World.size_setCell]; omega) | (simp only [World.size_alloc, World.size_setCell]; omega) | omega) _ | refine Below.alloc ?_ (by first | exact Nat.le_refl _ | exact Nat.le_add_right _ _ | (simp only [World.size_alloc]; omega) | (simp only [World.size_setCell]; omega) | (simp only [World.size_alloc, World.size_setCell]; omega) | omega) _ | refine Below.drew ?_))⟩
  · have hb' : hasB (l, F) id = false := by simpa using hb
    have HBT := Lib.hid hb'
    have HV := Lib.hid (show lesD (l, F) id = qZ from (hasB_no hb').1)
    have hcase : qB (l, F) = false ∨ (qB (l, F) = true ∧ atI l id < 0) := by
      unfold hasB at hb'
      rcases Bool.and_eq_false_iff.1 hb' with h | h
      · exact Or.inl h
      · have h2 := of_decide_eq_false h
        dsimp only at h2
        cases hq : qB (l, F)
        · exact Or.inl rfl
        · exact Or.inr ⟨rfl, by omega⟩
    clear hb hb'
    rcases hcase with hq | ⟨hq, hk⟩
    · rw [hq]
      clear hq
      generalize atI l id = v
      go_wp2_with fail
      exact bodyPost_ret (v := .tuple #[.agg #[.slice none 0 0, .int .i64 0], .bool false]) (by simp [results, Try.results33, go_sem, z0, z1]) rfl ⟨_, _, by rw [HBT.out], by rw [HV.out]; exact qzR, (by repeat (first | exact HB2.out | exact Below.refl _ _ | refine Below.setCell ?_ (by first | exact Nat.le_refl _ | exact Nat.le_add_right _ _ | (simp only [World.size_alloc]; omega) | (simp only [World.size_setCell]; omega) | (simp only [World.size_alloc, World.size_setCell]; omega) | omega) _ | refine Below.alloc ?_ (by first | exact Nat.le_refl _ | exact Nat.le_add_right _ _ | (simp only [World.size_alloc]; omega) | (simp only [World.size_setCell]; omega) | (simp only [World.size_alloc, World.size_setCell]; omega) | omega) _ | refine Below.drew ?_))⟩
    · rw [hq]
      clear hq
      generalize atI l id = v at hk ⊢
      go_wp2_with fail
      exact bodyPost_ret (v := .tuple #[.agg #[.slice none 0 0, .int .i64 0], .bool false]) (by simp [results, Try.results33, go_sem, z0, z1]) rfl ⟨_, _, by rw [HBT.out], by rw [HV.out]; exact qzR, (by repeat (first | exact HB2.out | exact Below.refl _ _ | refine Below.setCell ?_ (by first | exact Nat.le_refl _ | exact Nat.le_add_right _ _ | (simp only [World.size_alloc]; omega) | (simp only [World.size_setCell]; omega) | (simp only [World.size_alloc, World.size_setCell]; omega) | omega) _ | refine Below.alloc ?_ (by first | exact Nat.le_refl _ | exact Nat.le_add_right _ _ | (simp only [World.size_alloc]; omega) | (simp only [World.size_setCell]; omega) | (simp only [World.size_alloc, World.size_setCell]; omega) | omega) _ | refine Below.drew ?_))⟩

set_option maxHeartbeats 2000000 in
set_option maxRecDepth 100000 in
theorem queueWake_s : QWakS 45 := by
  intro w hi x0 x1 D id h hs hcq
  obtain ⟨A, n, c, hcs, hl, hn, hr⟩ := tyQueue_R h
  simp only [List.cons.injEq, and_true] at hcs
  obtain ⟨rfl, rfl⟩ := hcs
  obtain ⟨l, F⟩ := D
  dsimp only at hl hr ⊢
  have HR0 := Lib.hid h
  have HL := Lib.hid hl
  have HRT := Lib.hid (rowT hr)
  unfold maxLen at hn
  clear h hr hl
  unfold smallQueue at hs
  dsimp only at hs
  have HS := Lib.hid (show smallQueue (l, F) from hs)
  have HCQ := Lib.hid hcq
  clear hs hcq
  have X0 := Lib.hid ((Box.new w #[.slice A n c, .int .i64 F] 25).alloc (.cells #[.slice none 0 0, .int .i64 0] 25))
  have Z0 := Lib.hid (Box.new (w.alloc (.cells #[.slice A n c, .int .i64 F] 25)) #[.slice none 0 0, .int .i64 0] 25)
  simp only [World.size_alloc] at Z0
  have HB0 := Lib.hid (show Below w.heap.size w ((w.alloc (.cells #[.slice A n c, .int .i64 F] 25)).alloc (.cells #[.slice none 0 0, .int .i64 0] 25)) from ((Below.refl _ _).alloc (Nat.le_refl _) _).alloc (by simp only [World.size_alloc]; omega) _)
  go_enter Try.func45, Try.ntmps45
  go_wp2_with fail
  refine (qAt_any id (Ty.below_w HR0.out HB0.out)).mono ?_
  rintro e w1 ⟨rfl, hb1⟩
  have HB1 := Lib.hid (HB0.out.trans (hb1.mono HB0.out.size))
  have X1 := Lib.hid (X0.out.below hb1 X0.out.lt)
  have Z1 := Lib.hid (Z0.out.below hb1 Z0.out.lt)
  clear hb1
  have p0 := X1.out.cell 0
  have p1 := X1.out.cell 1
  have pl := X1.out.lt
  have z0 := Z1.out.cell 0
  have z1 := Z1.out.cell 1
  have e0 := Z1.out.frz 0
  have e1 := Z1.out.frz 1
  have zl := Z1.out.lt
  simp at p0 p1 z0 z1
  go_wp2_with fail
  refine (queueOk_any (Ty.below_w HR0.out HB1.out)).mono ?_
  rintro e w2 ⟨rfl, hb2⟩
  clear p0 p1 pl z0 z1 e0 e1 zl
  have HB2 := Lib.hid (HB1.out.trans (hb2.mono HB1.out.size))
  have X2 := Lib.hid (X1.out.below hb2 X1.out.lt)
  have Z2 := Lib.hid (Z1.out.below hb2 Z1.out.lt)
  clear hb2
  have p0 := X2.out.cell 0
  have p1 := X2.out.cell 1
  have pl := X2.out.lt
  have z0 := Z2.out.cell 0
  have z1 := Z2.out.cell 1
  have e0 := Z2.out.frz 0
  have e1 := Z2.out.frz 1
  have zl := Z2.out.lt
  simp at p0 p1 z0 z1
  dsimp only
  by_cases hb : hasB (l, F) id = true
  · have hb2 := hb
    unfold hasB at hb2
    rw [Bool.and_eq_true, decide_eq_true_eq] at hb2
    obtain ⟨hq, hk⟩ := hb2
    have HV := Lib.hid (show wakD (l, F) id = _ from by unfold wakD; rw [hb, if_pos rfl])
    obtain ⟨m, hm, hml, _, _⟩ := at_lt hk
    have hsm := qB_iff.1 hq
    rw [hq, hm]
    rw [hm, Int.toNat_natCast] at HV
    have HLN := Lib.hid hsm.2.1
    have HBT := Lib.hid hb
    have hk3 : ¬ ((m : Int) < 0) := by omega
    have HML := Lib.hid hml
    clear hb hq hk hm hsm hml
    go_wp2_with fail
    refine (qCopy_any (Ty.below_w HR0.out HB2.out) HS.out).mono ?_
    rintro e w3 ⟨y0, y1, fp, rfl, hm, hf, _, hb3⟩
    clear p0 p1 pl z0 z1 e0 e1 zl
    have HB3 := Lib.hid (HB2.out.trans (hb3.mono HB2.out.size))
    have X3 := Lib.hid (X2.out.below hb3 X2.out.lt)
    have Z3 := Lib.hid (Z2.out.below hb3 Z2.out.lt)
    clear hb3
    have p0 := X3.out.cell 0
    have p1 := X3.out.cell 1
    have pl := X3.out.lt
    have z0 := Z3.out.cell 0
    have z1 := Z3.out.cell 1
    have e0 := Z3.out.frz 0
    have e1 := Z3.out.frz 1
    have zl := Z3.out.lt
    simp at p0 p1 z0 z1
    obtain ⟨A9, n9, c9, hcs⟩ := tyQueue_shM hm
    simp only [List.cons.injEq, and_true] at hcs
    obtain ⟨rfl, rfl⟩ := hcs
    have HM := Lib.hid hm
    have HF := Lib.hid hf
    clear hm hf
    go_wp2_with fail
    refine (qWake_any _ HM.out HML.out).mono ?_
    rintro e w4 ⟨rfl, hm, ht⟩
    clear p0 p1 pl z0 z1 e0 e1 zl
    have HM4 := Lib.hid hm
    have HG := Lib.hid (show ∀ b ∈ fp, w2.heap.size ≤ b ∧ b < w4.heap.size from fun b hb => ⟨(HF.out b hb).1, Nat.lt_of_lt_of_le (HF.out b hb).2 ht.size⟩)
    have HB4 := Lib.hid (HB3.out.trans (ht.below HB3.out.size fun b hb => by have := (HF.out b hb).1; have := HB2.out.size; omega))
    have X4 := Lib.hid (ht.box X3.out fun hb => by have := (HF.out _ hb).1; have := X2.out.lt; omega)
    have Z4 := Lib.hid (ht.box Z3.out fun hb => by have := (HF.out _ hb).1; have := Z2.out.lt; omega)
    clear hm ht
    have p0 := X4.out.cell 0
    have p1 := X4.out.cell 1
    have pl := X4.out.lt
    have z0 := Z4.out.cell 0
    have z1 := Z4.out.cell 1
    have e0 := Z4.out.frz 0
    have e1 := Z4.out.frz 1
    have zl := Z4.out.lt
    simp at p0 p1 z0 z1
    go_wp2_with fail
    exact bodyPost_ret (v := .tuple #[.agg #[.slice A9 n9 c9, .int .i64 F], .bool true]) (by simp [results, Try.results45, go_sem, z0, z1]) rfl ⟨_, _, by rw [HBT.out], by rw [HV.out]; exact laidR HM4.out (fun b hb => ⟨(HG.out b hb).2, by have h1 := (HG.out b hb).1; have h2 := Z2.out.lt; omega⟩) _ _, (by repeat (first | exact HB4.out | exact Below.refl _ _ | refine Below.setCell ?_ (by first | exact Nat.le_refl _ | exact Nat.le_add_right _ _ | (simp only [World.size_alloc]; omega) | (simp only [World.size_setCell]; omega) | (simp only [World.size_alloc, World.size_setCell]; omega) | omega) _ | refine Below.alloc ?_ (by first | exact Nat.le_refl _ | exact Nat.le_add_right _ _ | (simp only [World.size_alloc]; omega) | (simp only [World.size_setCell]; omega) | (simp only [World.size_alloc, World.size_setCell]; omega) | omega) _ | refine Below.drew ?_))⟩
  · have hb' : hasB (l, F) id = false := by simpa using hb
    have HBT := Lib.hid hb'
    have HV := Lib.hid (show wakD (l, F) id = qZ from (hasB_no hb').2.2)
    have hcase : qB (l, F) = false ∨ (qB (l, F) = true ∧ atI l id < 0) := by
      unfold hasB at hb'
      rcases Bool.and_eq_false_iff.1 hb' with h | h
      · exact Or.inl h
      · have h2 := of_decide_eq_false h
        dsimp only at h2
        cases hq : qB (l, F)
        · exact Or.inl rfl
        · exact Or.inr ⟨rfl, by omega⟩
    clear hb hb'
    rcases hcase with hq | ⟨hq, hk⟩
    · rw [hq]
      clear hq
      generalize atI l id = v
      go_wp2_with fail
      exact bodyPost_ret (v := .tuple #[.agg #[.slice none 0 0, .int .i64 0], .bool false]) (by simp [results, Try.results45, go_sem, z0, z1]) rfl ⟨_, _, by rw [HBT.out], by rw [HV.out]; exact qzR, (by repeat (first | exact HB2.out | exact Below.refl _ _ | refine Below.setCell ?_ (by first | exact Nat.le_refl _ | exact Nat.le_add_right _ _ | (simp only [World.size_alloc]; omega) | (simp only [World.size_setCell]; omega) | (simp only [World.size_alloc, World.size_setCell]; omega) | omega) _ | refine Below.alloc ?_ (by first | exact Nat.le_refl _ | exact Nat.le_add_right _ _ | (simp only [World.size_alloc]; omega) | (simp only [World.size_setCell]; omega) | (simp only [World.size_alloc, World.size_setCell]; omega) | omega) _ | refine Below.drew ?_))⟩
    · rw [hq]
      clear hq
      generalize atI l id = v at hk ⊢
      go_wp2_with fail
      exact bodyPost_ret (v := .tuple #[.agg #[.slice none 0 0, .int .i64 0], .bool false]) (by simp [results, Try.results45, go_sem, z0, z1]) rfl ⟨_, _, by rw [HBT.out], by rw [HV.out]; exact qzR, (by repeat (first | exact HB2.out | exact Below.refl _ _ | refine Below.setCell ?_ (by first | exact Nat.le_refl _ | exact Nat.le_add_right _ _ | (simp only [World.size_alloc]; omega) | (simp only [World.size_setCell]; omega) | (simp only [World.size_alloc, World.size_setCell]; omega) | omega) _ | refine Below.alloc ?_ (by first | exact Nat.le_refl _ | exact Nat.le_add_right _ _ | (simp only [World.size_alloc]; omega) | (simp only [World.size_setCell]; omega) | (simp only [World.size_alloc, World.size_setCell]; omega) | omega) _ | refine Below.drew ?_))⟩
end
end Go.Proofs.Ytagggajlpmdpdaa
