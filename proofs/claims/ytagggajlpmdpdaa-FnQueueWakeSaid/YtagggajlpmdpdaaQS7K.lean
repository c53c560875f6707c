/-
  l11Tick, the blocks' sizes kept.
-/
import Derived.Test.YtagggajlpmdpdaaQRoom
namespace Go.Proofs.Ytagggajlpmdpdaa
open Go.RowKit

section
variable {w : World}
set_option maxHeartbeats 4000000 in
set_option maxRecDepth 100000 in
theorem qTick_k {fp : List Nat} {x0 x1 : Value} {D : Qu} (h : tyQueue.M w fp [x0, x1] D) (hfp : ∀ b ∈ fp, b < w.heap.size) (hrg : RngQ D.1) :
    Calls Try.prog 80 #[.agg #[x0, x1]] w fun e w' => e = .returned (.tuple #[.agg #[x0, .int .i64 (tkR D).1.2], .int .i64 (tkR D).2]) ∧ tyQueue.M w' fp [x0, .int .i64 (tkR D).1.2] (tkR D).1 ∧ FootK w w' fp := by
  have HM0 := Lib.hid h
  obtain ⟨A, n, c, f0, hcs, hfe, hl, hn, hr⟩ := tyQueue_M h
  simp only [List.cons.injEq, and_true] at hcs
  obtain ⟨rfl, rfl⟩ := hcs
  subst hfe
  obtain ⟨l, F⟩ := D
  dsimp only at hl hr hrg HM0 ⊢
  have HR := Lib.hid hr
  have HL := Lib.hid hl
  have HG := Lib.hid hrg
  have HFP := Lib.hid hfp
  clear h hl hr hrg hfp
  have X0 := Lib.hid ((Box.new w #[.slice A n c, .int .i64 F] 25).alloc (.cells #[.slice none 0 0, .int .i64 0] 25))
  have Z0 := Lib.hid (Box.new (w.alloc (.cells #[.slice A n c, .int .i64 F] 25)) #[.slice none 0 0, .int .i64 0] 25)
  simp only [World.size_alloc] at Z0
  have HB0 := Lib.hid (show Below w.heap.size w ((w.alloc (.cells #[.slice A n c, .int .i64 F] 25)).alloc (.cells #[.slice none 0 0, .int .i64 0] 25)) from ((Below.refl _ _).alloc (Nat.le_refl _) _).alloc (by simp only [World.size_alloc]; omega) _)
  have HM1 := Lib.hid (Ty.mb HM0.out HB0.out HFP.out)
  go_enter Try.func80, Try.ntmps80
  go_wp2_with fail
  refine (qNext_any (tyQueue.mr HM1.out fun b hb => Nat.lt_of_lt_of_le (HFP.out b hb) HB0.out.size)).mono ?_
  rintro e w1 ⟨rfl, hb1⟩
  have HB1 := Lib.hid (HB0.out.trans (hb1.mono HB0.out.size))
  have HM2 := Lib.hid (Ty.mb HM0.out HB1.out HFP.out)
  have XQ1 := Lib.hid (X0.out.below hb1 X0.out.lt)
  have XZ1 := Lib.hid (Z0.out.below hb1 Z0.out.lt)
  clear hb1 HM1 HB0 X0 Z0
  dsimp only
  have p0 := XQ1.out.cell 0
  have p1 := XQ1.out.cell 1
  have z0 := XZ1.out.cell 0
  have z1 := XZ1.out.cell 1
  have e0 := XZ1.out.frz 0
  have e1 := XZ1.out.frz 1
  have pl := XQ1.out.lt
  have zl := XZ1.out.lt
  simp at p0 p1 z0 z1
  by_cases hk : nxI l < 0
  case pos =>
    have HT := Lib.hid (tk_none (D := (l, F)) hk)
    generalize nxI l = v at hk ⊢
    go_wp2_with fail
    refine bodyPost_ret (v := .tuple #[.agg #[.slice A n c, .int .i64 F], .int .i64 (-1)]) (by simp [results, Try.results80, go_sem, z0, z1]) rfl ⟨by rw [HT.out], ?_, ?_⟩
    · rw [HT.out]
      exact tyQueue.mframe HM2.out fun b hb => ((heap_setCell_other _ _ _ _ (by have := HFP.out b hb; show b ≠ w.heap.size + 1; omega)).trans (heap_setCell_other _ _ _ _ (by have := HFP.out b hb; show b ≠ w.heap.size + 1; omega)))
    · exact ((FootK.of_below HB1.out f0).fresh (b := w.heap.size + 1) (i := 0) _ (Nat.le_succ _)).fresh (b := w.heap.size + 1) (i := 1) _ (Nat.le_succ _)
  obtain ⟨m, hm⟩ : ∃ m : Nat, nxI l = m := ⟨(nxI l).toNat, by omega⟩
  have HNX := Lib.hid hm
  have hml : m < n := by have h := (nx_lt l l.length).2; rw [show nxTo l l.length = m from hm, HL.out] at h; omega
  rw [hm]
  clear hm hk
  obtain ⟨b, o, c', hx0, hx1, hfe, hbs, hfz, hr, _, hat⟩ := ownQ HM2.out (k := m) (by dsimp only; rw [HL.out]; exact hml)
  dsimp only at hx0 hr hat
  injection hx0 with e1 e2 e3
  subst e1 e3
  rw [HL.out] at hr hat
  clear e2
  have HRW := Lib.hid hr
  subst hfe
  obtain ⟨c0, c1, c2, c3⟩ := hat m hml
  have hb : b < w.heap.size := HFP.out b (List.mem_singleton.2 rfl)
  have HT0 := Lib.hid (show ∀ cc, tickC (tA l m) = cc → 1000000 < cc → tkR (l, F) = ((l, F), -1) from fun cc h1 h2 => tk_high (D := (l, F)) HNX.out (by rw [h1]; exact h2))
  obtain ⟨m2, hm2, hm2l⟩ := nx_set (c := tickC (tA l m)) HNX.out
  rw [HL.out] at hm2l
  have HN2 := Lib.hid hm2
  have HTC := Lib.hid (show tickC (tA l m) = (tA l m).f2 + Int.tdiv 60 (tA l m).f1 from rfl)
  have hg := HG.out m (by rw [HL.out]; exact hml)
  have hd := tdiv_bounds hg.1
  have ha1 : ¬ (tA l m).f1 = 0 := by omega
  have hq1 : ((tA l m).f1 == 0) = false := by rw [beq_eq_false_iff_ne]; exact ha1
  have hq2 : IntKind.i64.wrap (Int.tdiv 60 (tA l m).f1) = Int.tdiv 60 (tA l m).f1 := IntWalk.i64_in _ (by omega)
  have hq3 : IntKind.i64.wrap ((tA l m).f2 + Int.tdiv 60 (tA l m).f1) = (tA l m).f2 + Int.tdiv 60 (tA l m).f1 := IntWalk.i64_in _ (by omega)
  have hk1 : (m : Int) < (n : Int) := by omega
  have hk2 : (0 : Int) ≤ (m : Int) := by omega
  have hk3 : ¬ ((m : Int) < 0) := by omega
  have f2 := hfz (o + m * 4 + 2)
  have f3 := hfz (o + m * 4 + 3)
  clear hr hat hm2 HG hg
  generalize tickC (tA l m) = cc at HT0 HN2 HTC
  generalize htm : tA l m = a at c0 c1 c2 c3 hd ha1 hq1 hq2 hq3 HTC HN2
  have HTM := Lib.hid htm
  clear htm
  obtain ⟨a0, a1, a2, a3⟩ := a
  dsimp only at c0 c1 c2 c3 hd ha1 hq1 hq2 hq3 HTC
  have hbs' : ¬ (b = w.heap.size) := by omega
  have hbz' : ¬ (b = w.heap.size + 1) := by omega
  have hsb : ¬ (w.heap.size = b) := by omega
  have hzb : ¬ (w.heap.size + 1 = b) := by omega
  go_wp2_with fail
  have HMd := Lib.hid (show tyQueue.M w1.drew [b] _ _ from HM2.out)
  have HFd := Lib.hid ((FootK.of_below HB1.out [b]).drew)
  have XQ2 := Lib.hid (show Box w1.drew _ _ _ from XQ1.out)
  have XZ2 := Lib.hid (show Box w1.drew _ _ _ from XZ1.out)
  have HRd := Lib.hid (show RowM elTask w1.drew [b] (some ⟨b, o, none⟩) n l from HRW.out)
  have hf2 : ∀ i, w1.drew.frozen? ⟨b, i, none⟩ = false := hfz
  refine wp_region_held_drew (S := fun w' => w'.cell? ⟨w.heap.size, 0, none⟩ = some (.slice (some ⟨b, o, none⟩) n c) ∧ w'.cell? ⟨w.heap.size, 1, none⟩ = some (.int .i64 F) ∧ w'.cell? ⟨b, o + m * 4 + 1, none⟩ = some (.int .i64 a1) ∧ w'.cell? ⟨b, o + m * 4 + 2, none⟩ = some (.int .i64 a2)) (by kernel_rfl) ⟨p0, p1, c1, c2⟩ (fun hHeld => ?_)
  generalize w1.drew = w2 at HMd HFd XQ2 XZ2 HRd hf2 hHeld ⊢
  refine wpAnyH_take (i := 0) (v := ?va0) rfl (by kernel_rfl) (by kernel_rfl) (by kernel_rfl) (fun _ _ _ h => h) (Or.inl ⟨by rfl, ?hya0⟩) (by assumption) ?resta0
  case hya0 =>
    intro w hSw
    try dsimp only at hSw
    go_simp
    try with_reducible rfl
  simp only [Act.put, List.setIfInBounds_toArray, List.set_cons_zero, List.set_cons_succ, List.getElem_toArray, List.getElem_cons_zero]
  refine wpAnyH_take (i := 1) (v := ?va1) rfl (by kernel_rfl) (by kernel_rfl) (by kernel_rfl) (fun _ _ _ h => h) (Or.inl ⟨by rfl, ?hya1⟩) (by assumption) ?resta1
  case hya1 =>
    intro w hSw
    try dsimp only at hSw
    go_simp
    try with_reducible rfl
  simp only [Act.put, List.setIfInBounds_toArray, List.set_cons_zero, List.set_cons_succ, List.getElem_toArray, List.getElem_cons_zero, List.getElem_cons_succ]
  refine wpAnyH_take (i := 2) (v := ?va2) rfl (by kernel_rfl) (by kernel_rfl) (by kernel_rfl) (fun _ _ _ h => h) (Or.inl ⟨by rfl, ?hya2⟩) (by assumption) ?resta2
  case hya2 =>
    intro w hSw
    try dsimp only at hSw
    go_simp
    try with_reducible rfl
  simp only [Act.put, List.setIfInBounds_toArray, List.set_cons_zero, List.set_cons_succ, List.getElem_toArray, List.getElem_cons_zero, List.getElem_cons_succ]
  refine wpAnyH_take (i := 3) (v := ?va3) rfl (by kernel_rfl) (by kernel_rfl) (by kernel_rfl) (fun _ _ _ h => h) (Or.inl ⟨by rfl, ?hya3⟩) (by assumption) ?resta3
  case hya3 =>
    intro w hSw
    try dsimp only at hSw
    go_simp
    try with_reducible rfl
  simp only [Act.put, List.setIfInBounds_toArray, List.set_cons_zero, List.set_cons_succ, List.getElem_toArray, List.getElem_cons_zero, List.getElem_cons_succ]
  refine wpAnyH_take (i := 4) (v := ?va4) rfl (by kernel_rfl) (by kernel_rfl) (by kernel_rfl) (fun _ _ _ h => h) (Or.inl ⟨by rfl, ?hya4⟩) (by assumption) ?resta4
  case hya4 =>
    intro w hSw
    try dsimp only at hSw
    go_simp
    try with_reducible rfl
  simp only [Act.put, List.setIfInBounds_toArray, List.set_cons_zero, List.set_cons_succ, List.getElem_toArray, List.getElem_cons_zero, List.getElem_cons_succ]
  refine wpAnyH_take (i := 5) (v := ?va5) rfl (by kernel_rfl) (by kernel_rfl) (by kernel_rfl) (fun _ _ _ h => h) (Or.inl ⟨by rfl, ?hya5⟩) (by assumption) ?resta5
  case hya5 =>
    intro w hSw
    try dsimp only at hSw
    go_simp
    try with_reducible rfl
  simp only [Act.put, List.setIfInBounds_toArray, List.set_cons_zero, List.set_cons_succ, List.getElem_toArray, List.getElem_cons_zero, List.getElem_cons_succ]
  refine wpAnyH_take (i := 6) (v := ?va6) rfl (by kernel_rfl) (by kernel_rfl) (by kernel_rfl) (fun _ _ _ h => h) (Or.inl ⟨by rfl, ?hya6⟩) (by assumption) ?resta6
  case hya6 =>
    intro w hSw
    try dsimp only at hSw
    go_simp
    try with_reducible rfl
  simp only [Act.put, List.setIfInBounds_toArray, List.set_cons_zero, List.set_cons_succ, List.getElem_toArray, List.getElem_cons_zero, List.getElem_cons_succ]
  refine wpAnyH_take (i := 7) (v := ?va7) rfl (by kernel_rfl) (by kernel_rfl) (by kernel_rfl) (fun _ _ _ h => h) (Or.inl ⟨by rfl, ?hya7⟩) (by assumption) ?resta7
  case hya7 =>
    intro w hSw
    try dsimp only at hSw
    go_simp
    try with_reducible rfl
  simp only [Act.put, List.setIfInBounds_toArray, List.set_cons_zero, List.set_cons_succ, List.getElem_toArray, List.getElem_cons_zero, List.getElem_cons_succ]
  refine wpAnyH_take (i := 8) (v := ?va8) rfl (by kernel_rfl) (by kernel_rfl) (by kernel_rfl) (fun _ _ _ h => h) (Or.inl ⟨by rfl, ?hya8⟩) (by assumption) ?resta8
  case hya8 =>
    intro w hSw
    try dsimp only at hSw
    go_simp
    try with_reducible rfl
  simp only [Act.put, List.setIfInBounds_toArray, List.set_cons_zero, List.set_cons_succ, List.getElem_toArray, List.getElem_cons_zero, List.getElem_cons_succ]
  refine wpAnyH_take (i := 9) (v := ?va9) rfl (by kernel_rfl) (by kernel_rfl) (by kernel_rfl) (fun _ _ _ h => h) (Or.inl ⟨by rfl, ?hya9⟩) (by assumption) ?resta9
  case hya9 =>
    intro w hSw
    try dsimp only at hSw
    go_simp
    try with_reducible rfl
  simp only [Act.put, List.setIfInBounds_toArray, List.set_cons_zero, List.set_cons_succ, List.getElem_toArray, List.getElem_cons_zero, List.getElem_cons_succ]
  refine wpAnyH_take (i := 10) (v := ?va10) rfl (by kernel_rfl) (by kernel_rfl) (by kernel_rfl) (fun _ _ _ h => h) (Or.inl ⟨by rfl, ?hya10⟩) (by assumption) ?resta10
  case hya10 =>
    intro w hSw
    try dsimp only at hSw
    go_simp
    try with_reducible rfl
  simp only [Act.put, List.setIfInBounds_toArray, List.set_cons_zero, List.set_cons_succ, List.getElem_toArray, List.getElem_cons_zero, List.getElem_cons_succ]
  refine wpAnyH_take (i := 11) (v := ?va11) rfl (by kernel_rfl) (by kernel_rfl) (by kernel_rfl) (fun _ _ _ h => h) (Or.inl ⟨by rfl, ?hya11⟩) (by assumption) ?resta11
  case hya11 =>
    intro w hSw
    try dsimp only at hSw
    go_simp
    try with_reducible rfl
  simp only [Act.put, List.setIfInBounds_toArray, List.set_cons_zero, List.set_cons_succ, List.getElem_toArray, List.getElem_cons_zero, List.getElem_cons_succ]
  refine wpAnyH_take (i := 12) (v := ?va12) rfl (by kernel_rfl) (by kernel_rfl) (by kernel_rfl) (fun _ _ _ h => h) (Or.inl ⟨by rfl, ?hya12⟩) (by assumption) ?resta12
  case hya12 =>
    intro w hSw
    try dsimp only at hSw
    go_simp
    try with_reducible rfl
  simp only [Act.put, List.setIfInBounds_toArray, List.set_cons_zero, List.set_cons_succ, List.getElem_toArray, List.getElem_cons_zero, List.getElem_cons_succ]
  refine wpAnyH_take (i := 13) (v := ?va13) rfl (by kernel_rfl) (by kernel_rfl) (by kernel_rfl) (fun _ _ _ h => h) (Or.inl ⟨by rfl, ?hya13⟩) (by assumption) ?resta13
  case hya13 =>
    intro w hSw
    try dsimp only at hSw
    go_simp
    try with_reducible rfl
  simp only [Act.put, List.setIfInBounds_toArray, List.set_cons_zero, List.set_cons_succ, List.getElem_toArray, List.getElem_cons_zero, List.getElem_cons_succ]
  refine wpAnyH_take (i := 14) (v := ?va14) rfl (by kernel_rfl) (by kernel_rfl) (by kernel_rfl) (fun _ _ _ h => h) (Or.inl ⟨by rfl, ?hya14⟩) (by assumption) ?resta14
  case hya14 =>
    intro w hSw
    try dsimp only at hSw
    go_simp
    try with_reducible rfl
  simp only [Act.put, List.setIfInBounds_toArray, List.set_cons_zero, List.set_cons_succ, List.getElem_toArray, List.getElem_cons_zero, List.getElem_cons_succ]
  refine wpAnyH_done (by kernel_rfl) ?_ _
  rw [← HTC.out]
  clear p0 p1 z0 z1 e0 e1 pl zl hHeld f2 f3 c0 c1 c2 c3 hfz hq1 hq2 hq3
  have f2 := hf2 (o + m * 4 + 2)
  have p0 := XQ2.out.cell 0
  have p1 := XQ2.out.cell 1
  have z0 := XZ2.out.cell 0
  have z1 := XZ2.out.cell 1
  have e0 := XZ2.out.frz 0
  have e1 := XZ2.out.frz 1
  have pl := XQ2.out.lt
  have zl := XZ2.out.lt
  simp at p0 p1 z0 z1
  by_cases hc : 1000000 < cc
  case pos =>
    have HT := Lib.hid (HT0.out cc rfl hc)
    have hcI : (1000000 : Int) < cc := hc
    go_wp2_with fail
    refine bodyPost_ret (v := .tuple #[.agg #[.slice (some ⟨b, o, none⟩) n c, .int .i64 F], .int .i64 (-1)]) (by simp [results, Try.results80, go_sem, z0, z1]) rfl ⟨by rw [HT.out], ?_, ?_⟩
    · rw [HT.out]
      exact tyQueue.mframe HMd.out fun b hb => ((heap_setCell_other _ _ _ _ (by have := HFP.out b hb; show b ≠ w.heap.size + 1; omega)).trans (heap_setCell_other _ _ _ _ (by have := HFP.out b hb; show b ≠ w.heap.size + 1; omega)))
    · exact (HFd.out.fresh (b := w.heap.size + 1) (i := 0) _ (Nat.le_succ _)).fresh (b := w.heap.size + 1) (i := 1) _ (Nat.le_succ _)
  have HT := Lib.hid (tk_some (F := F) HNX.out hc (by rw [HTM.out]; exact HTC.out.symm) (by rw [HTM.out]; exact HN2.out))
  rw [HTM.out] at HT
  have HR3 := Lib.hid (rowM_cost (x := cc) HRd.out HL.out hml)
  rw [HTM.out] at HR3
  have XQ3 := Lib.hid (XQ2.out.other (a := ⟨b, o + m * 4 + 2, none⟩) hsb (.int .i64 cc))
  have XZ3 := Lib.hid (XZ2.out.other (a := ⟨b, o + m * 4 + 2, none⟩) hzb (.int .i64 cc))
  have HF3 := Lib.hid (HFd.out.set (List.mem_singleton.2 rfl) (o + m * 4 + 2) (.int .i64 cc))
  have HL3 := Lib.hid (show (l.set m (setC ⟨a0, a1, a2, a3⟩ cc)).length = n by rw [List.length_set]; exact HL.out)
  have HID := Lib.hid (show (tA (l.set m (setC ⟨a0, a1, a2, a3⟩ cc)) m).f0 = a0 by rw [getD_setT l m m _ (by rw [HL.out]; exact hml), if_pos rfl]; rfl)
  have c2 := costs HRd.out m hml
  rw [HTM.out] at c2
  clear HT0 HTC HMd
  go_wp2_with fail
  generalize w2.setCell ⟨b, o + m * 4 + 2, none⟩ (.int .i64 cc) = w3 at HR3 XQ3 XZ3 HF3 ⊢
  generalize l.set m (setC ⟨a0, a1, a2, a3⟩ cc) = l1 at HR3 HT HL3 HN2 HID
  clear p0 p1 z0 z1 e0 e1 pl zl f2 c2
  obtain ⟨x, hx⟩ : ∃ x, (tA l1 m2).f2 = x := ⟨_, rfl⟩
  rw [hx] at HT
  by_cases hlt : F < x
  · have hle : F ≤ x := by omega
    have hnl : ¬ x ≤ F := by omega
    have hnl2 : ¬ x < F := by omega
    have HMX := Lib.hid (show max F x = x from Int.max_eq_right hle)
    have HR4 := Lib.hid (show RowM elTask w3.drew [b] (some ⟨b, o, none⟩) n l1 from HR3.out)
    have XQ4 := Lib.hid (show Box w3.drew _ _ _ from XQ3.out)
    have XZ4 := Lib.hid (show Box w3.drew _ _ _ from XZ3.out)
    have HF4 := Lib.hid HF3.out.drew
    refine goAny_drew (z := 11) (S := fun w' => w'.cell? ⟨w.heap.size, 0, none⟩ = some (.slice (some ⟨b, o, none⟩) n c) ∧ w'.cell? ⟨w.heap.size, 1, none⟩ = some (.int .i64 F) ∧ ∀ j, j < n → w'.cell? ⟨b, o + j * 4 + 2, none⟩ = some (.int .i64 (tA l1 j).f2)) (by kernel_rfl) ⟨XQ4.out.cell 0, XQ4.out.cell 1, fun j hj => costs HR4.out j hj⟩ (fun hHeld => ?_)
    generalize w3.drew = w4 at HR4 XQ4 XZ4 HF4 hHeld ⊢
    have hb4 : b < w4.heap.size := Nat.lt_of_lt_of_le hb HF4.out.size
    refine goAny_take (i := 0) (v := ?vb0) (by kernel_rfl) (by kernel_rfl) rfl (by kernel_rfl) (by kernel_rfl) (by kernel_rfl) (fun _ _ _ h => h) (Or.inl ⟨by rfl, ?hyb0⟩) (by assumption) ?restb0
    case hyb0 =>
      intro w hSw
      try dsimp only at hSw
      go_simp
      try with_reducible rfl
    simp only [Act.put, List.setIfInBounds_toArray, List.set_cons_zero, List.set_cons_succ, List.getElem_toArray, List.getElem_cons_zero]
    refine goAny_take (i := 1) (v := ?vb1) (by kernel_rfl) (by kernel_rfl) rfl (by kernel_rfl) (by kernel_rfl) (by kernel_rfl) (fun _ _ _ h => h) (Or.inl ⟨by rfl, ?hyb1⟩) (by assumption) ?restb1
    case hyb1 =>
      intro w hSw
      try dsimp only at hSw
      go_simp
      try with_reducible rfl
    simp only [Act.put, List.setIfInBounds_toArray, List.set_cons_zero, List.set_cons_succ, List.getElem_toArray, List.getElem_cons_zero, List.getElem_cons_succ]
    refine goAny_take (i := 2) (v := ?vb2) (by kernel_rfl) (by kernel_rfl) rfl (by kernel_rfl) (by kernel_rfl) (by kernel_rfl) (fun _ _ _ h => h) (Or.inl ⟨by rfl, ?hyb2⟩) (by assumption) ?restb2
    case hyb2 =>
      intro w hSw
      try dsimp only at hSw
      go_simp
      try with_reducible rfl
    simp only [Act.put, List.setIfInBounds_toArray, List.set_cons_zero, List.set_cons_succ, List.getElem_toArray, List.getElem_cons_zero, List.getElem_cons_succ]
    refine goAny_take (i := 3) (v := ?vb3) (by kernel_rfl) (by kernel_rfl) rfl (by kernel_rfl) (by kernel_rfl) (by kernel_rfl) (fun _ _ _ h => h) (Or.inl ⟨by rfl, ?hyb3⟩) (by assumption) ?restb3
    case hyb3 =>
      intro w hSw
      try dsimp only at hSw
      go_simp
      try with_reducible rfl
    simp only [Act.put, List.setIfInBounds_toArray, List.set_cons_zero, List.set_cons_succ, List.getElem_toArray, List.getElem_cons_zero, List.getElem_cons_succ]
    refine goAny_take (i := 4) (v := ?vb4) (by kernel_rfl) (by kernel_rfl) rfl (by kernel_rfl) (by kernel_rfl) (by kernel_rfl) (fun _ _ _ h => h) (Or.inl ⟨by rfl, ?hyb4⟩) (by assumption) ?restb4
    case hyb4 =>
      intro w hSw
      try dsimp only at hSw
      go_simp
      try with_reducible rfl
    simp only [Act.put, List.setIfInBounds_toArray, List.set_cons_zero, List.set_cons_succ, List.getElem_toArray, List.getElem_cons_zero, List.getElem_cons_succ]
    refine goAny_step (i := 5) (by kernel_rfl) rfl (fun K hK => ?_)
    go_simp
    go_at_call 77
    refine (qNext_any (w := w4) (hi := w4.heap.size) (D := (l1, F)) (tyQueue_Rmk ⟨HL3.out, by simp only [maxLen]; omega, HR4.out.row fun x hx => by rw [List.mem_singleton.1 hx]; exact hb4⟩)).mono ?_
    rintro e w5 ⟨rfl, hb5⟩
    dsimp only
    rw [HN2.out]
    have HR5 := Lib.hid (HR4.out.frame fun x hx => hb5.block x (by rw [List.mem_singleton.1 hx]; exact hb4))
    have XQ5 := Lib.hid (XQ4.out.below hb5 XQ4.out.lt)
    have XZ5 := Lib.hid (XZ4.out.below hb5 XZ4.out.lt)
    have HF5 := Lib.hid (HF4.out.trans (FootK.of_below hb5 [b]))
    clear hb5
    refine hK.out _ _ ?_ (fun hHeld => ?_)
    · exact ⟨XQ5.out.cell 0, XQ5.out.cell 1, fun j hj => costs HR5.out j hj⟩
    clear hK K
    try simp only [Act.put, List.setIfInBounds_toArray, List.set_cons_zero, List.set_cons_succ, List.getElem_toArray, List.getElem_cons_zero, List.getElem_cons_succ]
    refine goAny_take (i := 6) (v := ?vb6) (by kernel_rfl) (by kernel_rfl) rfl (by kernel_rfl) (by kernel_rfl) (by kernel_rfl) (fun _ _ _ h => h) (Or.inl ⟨by rfl, ?hyb6⟩) (by assumption) ?restb6
    case hyb6 =>
      intro w hSw
      try dsimp only at hSw
      go_simp
      try with_reducible rfl
    simp only [Act.put, List.setIfInBounds_toArray, List.set_cons_zero, List.set_cons_succ, List.getElem_toArray, List.getElem_cons_zero, List.getElem_cons_succ]
    refine goAny_take (i := 7) (v := ?vb7) (by kernel_rfl) (by kernel_rfl) rfl (by kernel_rfl) (by kernel_rfl) (by kernel_rfl) (fun _ _ _ h => h) (Or.inl ⟨by rfl, ?hyb7⟩) (by assumption) ?restb7
    case hyb7 =>
      intro w hSw
      try dsimp only at hSw
      go_simp
      try with_reducible rfl
    simp only [Act.put, List.setIfInBounds_toArray, List.set_cons_zero, List.set_cons_succ, List.getElem_toArray, List.getElem_cons_zero, List.getElem_cons_succ]
    refine goAny_take (i := 8) (v := ?vb8) (by kernel_rfl) (by kernel_rfl) rfl (by kernel_rfl) (by kernel_rfl) (by kernel_rfl) (fun _ _ _ h => h) (Or.inl ⟨by rfl, ?hyb8⟩) (by assumption) ?restb8
    case hyb8 =>
      intro w hSw
      try dsimp only at hSw
      have hSw2 := hSw.2.2 m2 hm2l
      rw [hx] at hSw2
      clear hSw
      go_simp
      try with_reducible rfl
    simp only [Act.put, List.setIfInBounds_toArray, List.set_cons_zero, List.set_cons_succ, List.getElem_toArray, List.getElem_cons_zero, List.getElem_cons_succ]
    refine goAny_take (i := 9) (v := ?vb9) (by kernel_rfl) (by kernel_rfl) rfl (by kernel_rfl) (by kernel_rfl) (by kernel_rfl) (fun _ _ _ h => h) (Or.inl ⟨by rfl, ?hyb9⟩) (by assumption) ?restb9
    case hyb9 =>
      intro w hSw
      try dsimp only at hSw
      go_simp
      try with_reducible rfl
    simp only [Act.put, List.setIfInBounds_toArray, List.set_cons_zero, List.set_cons_succ, List.getElem_toArray, List.getElem_cons_zero, List.getElem_cons_succ]
    refine goAny_take (i := 10) (v := ?vb10) (by kernel_rfl) (by kernel_rfl) rfl (by kernel_rfl) (by kernel_rfl) (by kernel_rfl) (fun _ _ _ h => h) (Or.inl ⟨by rfl, ?hyb10⟩) (by assumption) ?restb10
    case hyb10 =>
      intro w hSw
      try dsimp only at hSw
      go_simp
      try with_reducible rfl
    simp only [Act.put, List.setIfInBounds_toArray, List.set_cons_zero, List.set_cons_succ, List.getElem_toArray, List.getElem_cons_zero, List.getElem_cons_succ]
    refine goAny_last (by kernel_rfl) (by kernel_rfl) rfl (fun K hK => ?_)
    have hq1 := XQ5.out.cell 1
    have hq2 := XQ5.out.frz 1
    have hq3 := XQ5.out.lt
    simp at hq1
    go_simp
    refine hK.out _ _ ?_
    clear hK K
    try simp only [Act.put, List.setIfInBounds_toArray, List.set_cons_zero, List.set_cons_succ, List.getElem_toArray, List.getElem_cons_zero, List.getElem_cons_succ]
    have XQ6 := Lib.hid (XQ5.out.set 1 (.int .i64 x))
    simp at XQ6
    have XZ6 := Lib.hid (XZ5.out.other (a := ⟨w.heap.size, 1, none⟩) (by show w.heap.size + 1 ≠ w.heap.size; omega) (.int .i64 x))
    have HR6 := Lib.hid (rowM_off HR5.out ⟨w.heap.size, 1, none⟩ (.int .i64 x) fun x hx => by rw [List.mem_singleton.1 hx]; exact hbs')
    have HF6 := Lib.hid (HF5.out.fresh (b := w.heap.size) (i := 1) (.int .i64 x) (Nat.le_refl _))
    generalize (w5.setCell ⟨w.heap.size, 1, none⟩ (.int .i64 x)) = w6 at XQ6 XZ6 HR6 HF6 ⊢
    go_wp2_with fail
    have HR7 := Lib.hid (show RowM elTask w6.drew [b] (some ⟨b, o, none⟩) n l1 from HR6.out)
    have XQ7 := Lib.hid (show Box w6.drew _ _ _ from XQ6.out)
    have XZ7 := Lib.hid (show Box w6.drew _ _ _ from XZ6.out)
    have HF7 := Lib.hid HF6.out.drew
    have d0 := ids HR7.out m hml
    rw [HID.out] at d0
    refine wp_region_held_drew (S := fun w' => w'.cell? ⟨w.heap.size, 0, none⟩ = some (.slice (some ⟨b, o, none⟩) n c) ∧ w'.cell? ⟨w.heap.size, 1, none⟩ = some (.int .i64 x) ∧ w'.cell? ⟨b, o + m * 4, none⟩ = some (.int .i64 a0)) (by kernel_rfl) ⟨XQ7.out.cell 0, XQ7.out.cell 1, d0⟩ (fun hHeld => ?_)
    generalize w6.drew = w7 at HR7 XQ7 XZ7 HF7 d0 hHeld ⊢
    refine wpAnyH_take (i := 0) (v := ?vc0) rfl (by kernel_rfl) (by kernel_rfl) (by kernel_rfl) (fun _ _ _ h => h) (Or.inl ⟨by rfl, ?hyc0⟩) (by assumption) ?restc0
    case hyc0 =>
      intro w hSw
      try dsimp only at hSw
      go_simp
      try with_reducible rfl
    simp only [Act.put, List.setIfInBounds_toArray, List.set_cons_zero, List.set_cons_succ, List.getElem_toArray, List.getElem_cons_zero]
    refine wpAnyH_take (i := 1) (v := ?vc1) rfl (by kernel_rfl) (by kernel_rfl) (by kernel_rfl) (fun _ _ _ h => h) (Or.inl ⟨by rfl, ?hyc1⟩) (by assumption) ?restc1
    case hyc1 =>
      intro w hSw
      try dsimp only at hSw
      go_simp
      try with_reducible rfl
    simp only [Act.put, List.setIfInBounds_toArray, List.set_cons_zero, List.set_cons_succ, List.getElem_toArray, List.getElem_cons_zero, List.getElem_cons_succ]
    refine wpAnyH_take (i := 2) (v := ?vc2) rfl (by kernel_rfl) (by kernel_rfl) (by kernel_rfl) (fun _ _ _ h => h) (Or.inl ⟨by rfl, ?hyc2⟩) (by assumption) ?restc2
    case hyc2 =>
      intro w hSw
      try dsimp only at hSw
      go_simp
      try with_reducible rfl
    simp only [Act.put, List.setIfInBounds_toArray, List.set_cons_zero, List.set_cons_succ, List.getElem_toArray, List.getElem_cons_zero, List.getElem_cons_succ]
    refine wpAnyH_take (i := 3) (v := ?vc3) rfl (by kernel_rfl) (by kernel_rfl) (by kernel_rfl) (fun _ _ _ h => h) (Or.inl ⟨by rfl, ?hyc3⟩) (by assumption) ?restc3
    case hyc3 =>
      intro w hSw
      try dsimp only at hSw
      go_simp
      try with_reducible rfl
    simp only [Act.put, List.setIfInBounds_toArray, List.set_cons_zero, List.set_cons_succ, List.getElem_toArray, List.getElem_cons_zero, List.getElem_cons_succ]
    refine wpAnyH_take (i := 4) (v := ?vc4) rfl (by kernel_rfl) (by kernel_rfl) (by kernel_rfl) (fun _ _ _ h => h) (Or.inl ⟨by rfl, ?hyc4⟩) (by assumption) ?restc4
    case hyc4 =>
      intro w hSw
      try dsimp only at hSw
      go_simp
      try with_reducible rfl
    simp only [Act.put, List.setIfInBounds_toArray, List.set_cons_zero, List.set_cons_succ, List.getElem_toArray, List.getElem_cons_zero, List.getElem_cons_succ]
    refine wpAnyH_take (i := 5) (v := ?vc5) rfl (by kernel_rfl) (by kernel_rfl) (by kernel_rfl) (fun _ _ _ h => h) (Or.inl ⟨by rfl, ?hyc5⟩) (by assumption) ?restc5
    case hyc5 =>
      intro w hSw
      try dsimp only at hSw
      go_simp
      try with_reducible rfl
    simp only [Act.put, List.setIfInBounds_toArray, List.set_cons_zero, List.set_cons_succ, List.getElem_toArray, List.getElem_cons_zero, List.getElem_cons_succ]
    refine wpAnyH_take (i := 6) (v := ?vc6) rfl (by kernel_rfl) (by kernel_rfl) (by kernel_rfl) (fun _ _ _ h => h) (Or.inl ⟨by rfl, ?hyc6⟩) (by assumption) ?restc6
    case hyc6 =>
      intro w hSw
      try dsimp only at hSw
      go_simp
      try with_reducible rfl
    simp only [Act.put, List.setIfInBounds_toArray, List.set_cons_zero, List.set_cons_succ, List.getElem_toArray, List.getElem_cons_zero, List.getElem_cons_succ]
    refine wpAnyH_ready (rs := [7]) (by kernel_rfl) (by simp) ?_
    refine AllReadyH.cons rfl (fun K hK => ?_) AllReadyH.nil
    have z0 := XZ7.out.cell 0
    have z1 := XZ7.out.cell 1
    have e0 := XZ7.out.frz 0
    have e1 := XZ7.out.frz 1
    have zl := XZ7.out.lt
    simp at z0 z1
    go_simp
    have y1 := ((XQ7.out.other (a := ⟨w.heap.size + 1, 0, none⟩) (by show w.heap.size ≠ w.heap.size + 1; omega) (.slice (some ⟨b, o, none⟩) n c)).other (a := ⟨w.heap.size + 1, 1, none⟩) (by show w.heap.size ≠ w.heap.size + 1; omega) (.int .i64 x))
    have y2 := ((cell_off (w := w7.setCell ⟨w.heap.size + 1, 0, none⟩ (.slice (some ⟨b, o, none⟩) n c)) (a := ⟨w.heap.size + 1, 1, none⟩) (q := ⟨b, o + m * 4, none⟩) (v := .int .i64 x) (by show w.heap.size + 1 ≠ b; omega)).trans (cell_off (w := w7) (a := ⟨w.heap.size + 1, 0, none⟩) (q := ⟨b, o + m * 4, none⟩) (v := .slice (some ⟨b, o, none⟩) n c) (by show w.heap.size + 1 ≠ b; omega))).trans d0
    refine hK.out _ _ ?_ (fun hHeld => ?_)
    · exact ⟨y1.cell 0, y1.cell 1, y2⟩
    clear hK K
    try simp only [Act.put, List.setIfInBounds_toArray, List.set_cons_zero, List.set_cons_succ, List.getElem_toArray, List.getElem_cons_zero, List.getElem_cons_succ]
    refine wpAnyH_take (i := 8) (v := ?vc8) rfl (by kernel_rfl) (by kernel_rfl) (by kernel_rfl) (fun _ _ _ h => h) (Or.inl ⟨by rfl, ?hyc8⟩) (by assumption) ?restc8
    case hyc8 =>
      intro w hSw
      try dsimp only at hSw
      go_simp
      try with_reducible rfl
    simp only [Act.put, List.setIfInBounds_toArray, List.set_cons_zero, List.set_cons_succ, List.getElem_toArray, List.getElem_cons_zero, List.getElem_cons_succ]
    refine wpAnyH_done (by kernel_rfl) ?_ _
    go_wp2_with fail
    refine bodyPost_ret (v := .tuple #[.agg #[.slice (some ⟨b, o, none⟩) n c, .int .i64 x], .int .i64 a0]) (by simp [results, Try.results80, go_sem, z0, z1]) rfl ⟨by simp only [HT.out, HMX.out], ?_, ?_⟩
    · simp only [HT.out, HMX.out]
      exact tyQueue_Mmk (D := (l1, x)) ⟨HL3.out, hn, rowM_off (rowM_off HR7.out ⟨w.heap.size + 1, 0, none⟩ _ fun x hx => by rw [List.mem_singleton.1 hx]; exact hbz') ⟨w.heap.size + 1, 1, none⟩ _ fun x hx => by rw [List.mem_singleton.1 hx]; exact hbz'⟩
    · exact (HF7.out.fresh (b := w.heap.size + 1) (i := 0) _ (Nat.le_succ _)).fresh (b := w.heap.size + 1) (i := 1) _ (Nat.le_succ _)
  · have hle : x ≤ F := by omega
    have HMX := Lib.hid (show max F x = F from Int.max_eq_left hle)
    have HR4 := Lib.hid (show RowM elTask w3.drew [b] (some ⟨b, o, none⟩) n l1 from HR3.out)
    have XQ4 := Lib.hid (show Box w3.drew _ _ _ from XQ3.out)
    have XZ4 := Lib.hid (show Box w3.drew _ _ _ from XZ3.out)
    have HF4 := Lib.hid HF3.out.drew
    refine goAny_drew (z := 11) (S := fun w' => w'.cell? ⟨w.heap.size, 0, none⟩ = some (.slice (some ⟨b, o, none⟩) n c) ∧ w'.cell? ⟨w.heap.size, 1, none⟩ = some (.int .i64 F) ∧ ∀ j, j < n → w'.cell? ⟨b, o + j * 4 + 2, none⟩ = some (.int .i64 (tA l1 j).f2)) (by kernel_rfl) ⟨XQ4.out.cell 0, XQ4.out.cell 1, fun j hj => costs HR4.out j hj⟩ (fun hHeld => ?_)
    generalize w3.drew = w4 at HR4 XQ4 XZ4 HF4 hHeld ⊢
    have hb4 : b < w4.heap.size := Nat.lt_of_lt_of_le hb HF4.out.size
    refine goAny_take (i := 0) (v := ?vd0) (by kernel_rfl) (by kernel_rfl) rfl (by kernel_rfl) (by kernel_rfl) (by kernel_rfl) (fun _ _ _ h => h) (Or.inl ⟨by rfl, ?hyd0⟩) (by assumption) ?restd0
    case hyd0 =>
      intro w hSw
      try dsimp only at hSw
      go_simp
      try with_reducible rfl
    simp only [Act.put, List.setIfInBounds_toArray, List.set_cons_zero, List.set_cons_succ, List.getElem_toArray, List.getElem_cons_zero]
    refine goAny_take (i := 1) (v := ?vd1) (by kernel_rfl) (by kernel_rfl) rfl (by kernel_rfl) (by kernel_rfl) (by kernel_rfl) (fun _ _ _ h => h) (Or.inl ⟨by rfl, ?hyd1⟩) (by assumption) ?restd1
    case hyd1 =>
      intro w hSw
      try dsimp only at hSw
      go_simp
      try with_reducible rfl
    simp only [Act.put, List.setIfInBounds_toArray, List.set_cons_zero, List.set_cons_succ, List.getElem_toArray, List.getElem_cons_zero, List.getElem_cons_succ]
    refine goAny_take (i := 2) (v := ?vd2) (by kernel_rfl) (by kernel_rfl) rfl (by kernel_rfl) (by kernel_rfl) (by kernel_rfl) (fun _ _ _ h => h) (Or.inl ⟨by rfl, ?hyd2⟩) (by assumption) ?restd2
    case hyd2 =>
      intro w hSw
      try dsimp only at hSw
      go_simp
      try with_reducible rfl
    simp only [Act.put, List.setIfInBounds_toArray, List.set_cons_zero, List.set_cons_succ, List.getElem_toArray, List.getElem_cons_zero, List.getElem_cons_succ]
    refine goAny_take (i := 3) (v := ?vd3) (by kernel_rfl) (by kernel_rfl) rfl (by kernel_rfl) (by kernel_rfl) (by kernel_rfl) (fun _ _ _ h => h) (Or.inl ⟨by rfl, ?hyd3⟩) (by assumption) ?restd3
    case hyd3 =>
      intro w hSw
      try dsimp only at hSw
      go_simp
      try with_reducible rfl
    simp only [Act.put, List.setIfInBounds_toArray, List.set_cons_zero, List.set_cons_succ, List.getElem_toArray, List.getElem_cons_zero, List.getElem_cons_succ]
    refine goAny_take (i := 4) (v := ?vd4) (by kernel_rfl) (by kernel_rfl) rfl (by kernel_rfl) (by kernel_rfl) (by kernel_rfl) (fun _ _ _ h => h) (Or.inl ⟨by rfl, ?hyd4⟩) (by assumption) ?restd4
    case hyd4 =>
      intro w hSw
      try dsimp only at hSw
      go_simp
      try with_reducible rfl
    simp only [Act.put, List.setIfInBounds_toArray, List.set_cons_zero, List.set_cons_succ, List.getElem_toArray, List.getElem_cons_zero, List.getElem_cons_succ]
    refine goAny_step (i := 5) (by kernel_rfl) rfl (fun K hK => ?_)
    go_simp
    go_at_call 77
    refine (qNext_any (w := w4) (hi := w4.heap.size) (D := (l1, F)) (tyQueue_Rmk ⟨HL3.out, by simp only [maxLen]; omega, HR4.out.row fun x hx => by rw [List.mem_singleton.1 hx]; exact hb4⟩)).mono ?_
    rintro e w5 ⟨rfl, hb5⟩
    dsimp only
    rw [HN2.out]
    have HR5 := Lib.hid (HR4.out.frame fun x hx => hb5.block x (by rw [List.mem_singleton.1 hx]; exact hb4))
    have XQ5 := Lib.hid (XQ4.out.below hb5 XQ4.out.lt)
    have XZ5 := Lib.hid (XZ4.out.below hb5 XZ4.out.lt)
    have HF5 := Lib.hid (HF4.out.trans (FootK.of_below hb5 [b]))
    clear hb5
    refine hK.out _ _ ?_ (fun hHeld => ?_)
    · exact ⟨XQ5.out.cell 0, XQ5.out.cell 1, fun j hj => costs HR5.out j hj⟩
    clear hK K
    try simp only [Act.put, List.setIfInBounds_toArray, List.set_cons_zero, List.set_cons_succ, List.getElem_toArray, List.getElem_cons_zero, List.getElem_cons_succ]
    refine goAny_take (i := 6) (v := ?vd6) (by kernel_rfl) (by kernel_rfl) rfl (by kernel_rfl) (by kernel_rfl) (by kernel_rfl) (fun _ _ _ h => h) (Or.inl ⟨by rfl, ?hyd6⟩) (by assumption) ?restd6
    case hyd6 =>
      intro w hSw
      try dsimp only at hSw
      go_simp
      try with_reducible rfl
    simp only [Act.put, List.setIfInBounds_toArray, List.set_cons_zero, List.set_cons_succ, List.getElem_toArray, List.getElem_cons_zero, List.getElem_cons_succ]
    refine goAny_take (i := 7) (v := ?vd7) (by kernel_rfl) (by kernel_rfl) rfl (by kernel_rfl) (by kernel_rfl) (by kernel_rfl) (fun _ _ _ h => h) (Or.inl ⟨by rfl, ?hyd7⟩) (by assumption) ?restd7
    case hyd7 =>
      intro w hSw
      try dsimp only at hSw
      go_simp
      try with_reducible rfl
    simp only [Act.put, List.setIfInBounds_toArray, List.set_cons_zero, List.set_cons_succ, List.getElem_toArray, List.getElem_cons_zero, List.getElem_cons_succ]
    refine goAny_take (i := 8) (v := ?vd8) (by kernel_rfl) (by kernel_rfl) rfl (by kernel_rfl) (by kernel_rfl) (by kernel_rfl) (fun _ _ _ h => h) (Or.inl ⟨by rfl, ?hyd8⟩) (by assumption) ?restd8
    case hyd8 =>
      intro w hSw
      try dsimp only at hSw
      have hSw2 := hSw.2.2 m2 hm2l
      rw [hx] at hSw2
      clear hSw
      go_simp
      try with_reducible rfl
    simp only [Act.put, List.setIfInBounds_toArray, List.set_cons_zero, List.set_cons_succ, List.getElem_toArray, List.getElem_cons_zero, List.getElem_cons_succ]
    refine goAny_take (i := 9) (v := ?vd9) (by kernel_rfl) (by kernel_rfl) rfl (by kernel_rfl) (by kernel_rfl) (by kernel_rfl) (fun _ _ _ h => h) (Or.inl ⟨by rfl, ?hyd9⟩) (by assumption) ?restd9
    case hyd9 =>
      intro w hSw
      try dsimp only at hSw
      go_simp
      try with_reducible rfl
    simp only [Act.put, List.setIfInBounds_toArray, List.set_cons_zero, List.set_cons_succ, List.getElem_toArray, List.getElem_cons_zero, List.getElem_cons_succ]
    refine goAny_take (i := 10) (v := ?vd10) (by kernel_rfl) (by kernel_rfl) rfl (by kernel_rfl) (by kernel_rfl) (by kernel_rfl) (fun _ _ _ h => h) (Or.inl ⟨by rfl, ?hyd10⟩) (by assumption) ?restd10
    case hyd10 =>
      intro w hSw
      try dsimp only at hSw
      go_simp
      try with_reducible rfl
    simp only [Act.put, List.setIfInBounds_toArray, List.set_cons_zero, List.set_cons_succ, List.getElem_toArray, List.getElem_cons_zero, List.getElem_cons_succ]
    refine goAny_last (by kernel_rfl) (by kernel_rfl) rfl (fun K hK => ?_)
    have hq1 := XQ5.out.cell 1
    have hq2 := XQ5.out.frz 1
    have hq3 := XQ5.out.lt
    simp at hq1
    go_simp
    refine hK.out _ _ ?_
    clear hK K
    try simp only [Act.put, List.setIfInBounds_toArray, List.set_cons_zero, List.set_cons_succ, List.getElem_toArray, List.getElem_cons_zero, List.getElem_cons_succ]
    have XQ6 := Lib.hid (XQ5.out.set 1 (.int .i64 F))
    simp at XQ6
    have XZ6 := Lib.hid (XZ5.out.other (a := ⟨w.heap.size, 1, none⟩) (by show w.heap.size + 1 ≠ w.heap.size; omega) (.int .i64 F))
    have HR6 := Lib.hid (rowM_off HR5.out ⟨w.heap.size, 1, none⟩ (.int .i64 F) fun x hx => by rw [List.mem_singleton.1 hx]; exact hbs')
    have HF6 := Lib.hid (HF5.out.fresh (b := w.heap.size) (i := 1) (.int .i64 F) (Nat.le_refl _))
    generalize (w5.setCell ⟨w.heap.size, 1, none⟩ (.int .i64 F)) = w6 at XQ6 XZ6 HR6 HF6 ⊢
    go_wp2_with fail
    have HR7 := Lib.hid (show RowM elTask w6.drew [b] (some ⟨b, o, none⟩) n l1 from HR6.out)
    have XQ7 := Lib.hid (show Box w6.drew _ _ _ from XQ6.out)
    have XZ7 := Lib.hid (show Box w6.drew _ _ _ from XZ6.out)
    have HF7 := Lib.hid HF6.out.drew
    have d0 := ids HR7.out m hml
    rw [HID.out] at d0
    refine wp_region_held_drew (S := fun w' => w'.cell? ⟨w.heap.size, 0, none⟩ = some (.slice (some ⟨b, o, none⟩) n c) ∧ w'.cell? ⟨w.heap.size, 1, none⟩ = some (.int .i64 F) ∧ w'.cell? ⟨b, o + m * 4, none⟩ = some (.int .i64 a0)) (by kernel_rfl) ⟨XQ7.out.cell 0, XQ7.out.cell 1, d0⟩ (fun hHeld => ?_)
    generalize w6.drew = w7 at HR7 XQ7 XZ7 HF7 d0 hHeld ⊢
    refine wpAnyH_take (i := 0) (v := ?ve0) rfl (by kernel_rfl) (by kernel_rfl) (by kernel_rfl) (fun _ _ _ h => h) (Or.inl ⟨by rfl, ?hye0⟩) (by assumption) ?reste0
    case hye0 =>
      intro w hSw
      try dsimp only at hSw
      go_simp
      try with_reducible rfl
    simp only [Act.put, List.setIfInBounds_toArray, List.set_cons_zero, List.set_cons_succ, List.getElem_toArray, List.getElem_cons_zero]
    refine wpAnyH_take (i := 1) (v := ?ve1) rfl (by kernel_rfl) (by kernel_rfl) (by kernel_rfl) (fun _ _ _ h => h) (Or.inl ⟨by rfl, ?hye1⟩) (by assumption) ?reste1
    case hye1 =>
      intro w hSw
      try dsimp only at hSw
      go_simp
      try with_reducible rfl
    simp only [Act.put, List.setIfInBounds_toArray, List.set_cons_zero, List.set_cons_succ, List.getElem_toArray, List.getElem_cons_zero, List.getElem_cons_succ]
    refine wpAnyH_take (i := 2) (v := ?ve2) rfl (by kernel_rfl) (by kernel_rfl) (by kernel_rfl) (fun _ _ _ h => h) (Or.inl ⟨by rfl, ?hye2⟩) (by assumption) ?reste2
    case hye2 =>
      intro w hSw
      try dsimp only at hSw
      go_simp
      try with_reducible rfl
    simp only [Act.put, List.setIfInBounds_toArray, List.set_cons_zero, List.set_cons_succ, List.getElem_toArray, List.getElem_cons_zero, List.getElem_cons_succ]
    refine wpAnyH_take (i := 3) (v := ?ve3) rfl (by kernel_rfl) (by kernel_rfl) (by kernel_rfl) (fun _ _ _ h => h) (Or.inl ⟨by rfl, ?hye3⟩) (by assumption) ?reste3
    case hye3 =>
      intro w hSw
      try dsimp only at hSw
      go_simp
      try with_reducible rfl
    simp only [Act.put, List.setIfInBounds_toArray, List.set_cons_zero, List.set_cons_succ, List.getElem_toArray, List.getElem_cons_zero, List.getElem_cons_succ]
    refine wpAnyH_take (i := 4) (v := ?ve4) rfl (by kernel_rfl) (by kernel_rfl) (by kernel_rfl) (fun _ _ _ h => h) (Or.inl ⟨by rfl, ?hye4⟩) (by assumption) ?reste4
    case hye4 =>
      intro w hSw
      try dsimp only at hSw
      go_simp
      try with_reducible rfl
    simp only [Act.put, List.setIfInBounds_toArray, List.set_cons_zero, List.set_cons_succ, List.getElem_toArray, List.getElem_cons_zero, List.getElem_cons_succ]
    refine wpAnyH_take (i := 5) (v := ?ve5) rfl (by kernel_rfl) (by kernel_rfl) (by kernel_rfl) (fun _ _ _ h => h) (Or.inl ⟨by rfl, ?hye5⟩) (by assumption) ?reste5
    case hye5 =>
      intro w hSw
      try dsimp only at hSw
      go_simp
      try with_reducible rfl
    simp only [Act.put, List.setIfInBounds_toArray, List.set_cons_zero, List.set_cons_succ, List.getElem_toArray, List.getElem_cons_zero, List.getElem_cons_succ]
    refine wpAnyH_take (i := 6) (v := ?ve6) rfl (by kernel_rfl) (by kernel_rfl) (by kernel_rfl) (fun _ _ _ h => h) (Or.inl ⟨by rfl, ?hye6⟩) (by assumption) ?reste6
    case hye6 =>
      intro w hSw
      try dsimp only at hSw
      go_simp
      try with_reducible rfl
    simp only [Act.put, List.setIfInBounds_toArray, List.set_cons_zero, List.set_cons_succ, List.getElem_toArray, List.getElem_cons_zero, List.getElem_cons_succ]
    refine wpAnyH_ready (rs := [7]) (by kernel_rfl) (by simp) ?_
    refine AllReadyH.cons rfl (fun K hK => ?_) AllReadyH.nil
    have z0 := XZ7.out.cell 0
    have z1 := XZ7.out.cell 1
    have e0 := XZ7.out.frz 0
    have e1 := XZ7.out.frz 1
    have zl := XZ7.out.lt
    simp at z0 z1
    go_simp
    have y1 := ((XQ7.out.other (a := ⟨w.heap.size + 1, 0, none⟩) (by show w.heap.size ≠ w.heap.size + 1; omega) (.slice (some ⟨b, o, none⟩) n c)).other (a := ⟨w.heap.size + 1, 1, none⟩) (by show w.heap.size ≠ w.heap.size + 1; omega) (.int .i64 F))
    have y2 := ((cell_off (w := w7.setCell ⟨w.heap.size + 1, 0, none⟩ (.slice (some ⟨b, o, none⟩) n c)) (a := ⟨w.heap.size + 1, 1, none⟩) (q := ⟨b, o + m * 4, none⟩) (v := .int .i64 F) (by show w.heap.size + 1 ≠ b; omega)).trans (cell_off (w := w7) (a := ⟨w.heap.size + 1, 0, none⟩) (q := ⟨b, o + m * 4, none⟩) (v := .slice (some ⟨b, o, none⟩) n c) (by show w.heap.size + 1 ≠ b; omega))).trans d0
    refine hK.out _ _ ?_ (fun hHeld => ?_)
    · exact ⟨y1.cell 0, y1.cell 1, y2⟩
    clear hK K
    try simp only [Act.put, List.setIfInBounds_toArray, List.set_cons_zero, List.set_cons_succ, List.getElem_toArray, List.getElem_cons_zero, List.getElem_cons_succ]
    refine wpAnyH_take (i := 8) (v := ?ve8) rfl (by kernel_rfl) (by kernel_rfl) (by kernel_rfl) (fun _ _ _ h => h) (Or.inl ⟨by rfl, ?hye8⟩) (by assumption) ?reste8
    case hye8 =>
      intro w hSw
      try dsimp only at hSw
      go_simp
      try with_reducible rfl
    simp only [Act.put, List.setIfInBounds_toArray, List.set_cons_zero, List.set_cons_succ, List.getElem_toArray, List.getElem_cons_zero, List.getElem_cons_succ]
    refine wpAnyH_done (by kernel_rfl) ?_ _
    go_wp2_with fail
    refine bodyPost_ret (v := .tuple #[.agg #[.slice (some ⟨b, o, none⟩) n c, .int .i64 F], .int .i64 a0]) (by simp [results, Try.results80, go_sem, z0, z1]) rfl ⟨by simp only [HT.out, HMX.out], ?_, ?_⟩
    · simp only [HT.out, HMX.out]
      exact tyQueue_Mmk (D := (l1, F)) ⟨HL3.out, hn, rowM_off (rowM_off HR7.out ⟨w.heap.size + 1, 0, none⟩ _ fun x hx => by rw [List.mem_singleton.1 hx]; exact hbz') ⟨w.heap.size + 1, 1, none⟩ _ fun x hx => by rw [List.mem_singleton.1 hx]; exact hbz'⟩
    · exact (HF7.out.fresh (b := w.heap.size + 1) (i := 0) _ (Nat.le_succ _)).fresh (b := w.heap.size + 1) (i := 1) _ (Nat.le_succ _)
end
end Go.Proofs.Ytagggajlpmdpdaa
