/-
  The draws of what the functions of chapter 10 are asked.
-/
import Derived.Test.YtncinocpdeokgaaGDraw
namespace Go.Proofs.Ytncinocpdeokgaa
open Go.RowKit

section
variable {A : Option Addr} {n c : Nat} {w : World}
set_option maxHeartbeats 1000000 in
set_option maxRecDepth 100000 in
theorem dDrawSigsOk_any (hc : Code w A n) (hcap : n ≤ c) (hcap2 : c ≤ maxLen) : Calls Try.prog 27 #[.slice A n c] w fun e w' => ∃ (y00 y01 y02 : Value) (D0 : Sg), e = .returned (.agg #[y00, y01, y02]) ∧ tySigs.R w' w'.heap.size [y00, y01, y02] D0 ∧ smallSigs D0 ∧ Below w.heap.size w w' := by
  have HA0 := Lib.hid (show Below w.heap.size w (w.alloc (.cells #[.slice none 0 0, .slice none 0 0, .slice none 0 0] 26)) from ((Below.refl _ _).alloc (Nat.le_refl _) _))
  have Z0_0 := Lib.hid (Box.new w #[.slice none 0 0, .slice none 0 0, .slice none 0 0] 26)
  go_enter Try.func27, Try.ntmps27
  go_wp2_with fail
  refine (open_any (hc.below HA0.out) hcap hcap2).mono ?_
  rintro e w1 ⟨A', n', c', rfl, hr, hb1⟩
  have hg := hr.box.lt
  have HB1 := Lib.hid (HA0.out.trans (hb1.mono HA0.out.size))
  have Z0_1 := Lib.hid (Z0_0.out.below hb1 Z0_0.out.lt)
  simp only [World.size_alloc] at hr hg
  have HT1 := Lib.hid (Touch.refl w1 (some ⟨w.heap.size + 1, 0, none⟩) 1)
  have HR1 := Lib.hid hr
  have hq1 : (0 : Int) ≤ 0 := by omega
  clear hb1 hr
  go_wp2_with fail
  refine (sigs_any HR1.out (by omega)).mono ?_
  rintro e w2 ⟨a0, b0, d0, D0, fp0, q2, rfl, hm0, hf0, hsm0, hrd, hq2, ht⟩
  have hz2 := hrd.p0
  have HM0_2 := Lib.hid hm0
  have HF0 := Lib.hid hf0
  have HSM0 := Lib.hid hsm0
  clear hm0 hf0 hsm0
  have HR2 := Lib.hid hrd
  have HT2 := Lib.hid (HT1.out.trans ht)
  have hs2 := ht.size
  have Z0_2 := Lib.hid (ht.box Z0_1.out (fun a e => by injection e with e; subst e; show w.heap.size ≠ w.heap.size + 1; omega))
  clear hrd ht
  obtain ⟨A00, n00, c00, A01, n01, c01, A02, n02, c02, hcs⟩ := tySigs_shM HM0_2.out
  simp only [List.cons.injEq, and_true] at hcs
  obtain ⟨rfl, rfl, rfl⟩ := hcs
  have z00 := Z0_2.out.cell 0
  have e00 := Z0_2.out.frz 0
  have z01 := Z0_2.out.cell 1
  have e01 := Z0_2.out.frz 1
  have z02 := Z0_2.out.cell 2
  have e02 := Z0_2.out.frz 2
  have zl0 := Z0_2.out.lt
  simp at z00 z01 z02
  go_wp2_with fail
  refine bodyPost_ret (v := .agg #[.slice A00 n00 c00, .slice A01 n01 c01, .slice A02 n02 c02]) (by simp [results, Try.results27, go_sem, z00, z01, z02]) rfl ⟨.slice A00 n00 c00, .slice A01 n01 c01, .slice A02 n02 c02, D0, rfl, tySigs.mr (tySigs.mframe (tySigs.mframe (tySigs.mframe HM0_2.out fun b hb => heap_setCell_other _ ⟨w.heap.size, 0, none⟩ b _ (by have h := HF0.out b hb; show b ≠ w.heap.size; omega)) fun b hb => heap_setCell_other _ ⟨w.heap.size, 1, none⟩ b _ (by have h := HF0.out b hb; show b ≠ w.heap.size; omega)) fun b hb => heap_setCell_other _ ⟨w.heap.size, 2, none⟩ b _ (by have h := HF0.out b hb; show b ≠ w.heap.size; omega)) fun b hb => by have h := HF0.out b hb; simp only [World.size_setCell]; omega, HSM0.out, ((((HB1.out.trans (HT2.out.low (lo := w.heap.size) (by omega) (by omega))).setCell (p := ⟨w.heap.size, 0, none⟩) (by show w.heap.size ≤ w.heap.size; omega) _).setCell (p := ⟨w.heap.size, 1, none⟩) (by show w.heap.size ≤ w.heap.size; omega) _).setCell (p := ⟨w.heap.size, 2, none⟩) (by show w.heap.size ≤ w.heap.size; omega) _)⟩

set_option maxHeartbeats 1000000 in
set_option maxRecDepth 100000 in
theorem dDrawSigsNext_any (hc : Code w A n) (hcap : n ≤ c) (hcap2 : c ≤ maxLen) : Calls Try.prog 39 #[.slice A n c] w fun e w' => ∃ (y00 y01 y02 : Value) (D0 : Sg), e = .returned (.agg #[y00, y01, y02]) ∧ tySigs.R w' w'.heap.size [y00, y01, y02] D0 ∧ smallSigs D0 ∧ Below w.heap.size w w' := by
  have HA0 := Lib.hid (show Below w.heap.size w (w.alloc (.cells #[.slice none 0 0, .slice none 0 0, .slice none 0 0] 26)) from ((Below.refl _ _).alloc (Nat.le_refl _) _))
  have Z0_0 := Lib.hid (Box.new w #[.slice none 0 0, .slice none 0 0, .slice none 0 0] 26)
  go_enter Try.func39, Try.ntmps39
  go_wp2_with fail
  refine (open_any (hc.below HA0.out) hcap hcap2).mono ?_
  rintro e w1 ⟨A', n', c', rfl, hr, hb1⟩
  have hg := hr.box.lt
  have HB1 := Lib.hid (HA0.out.trans (hb1.mono HA0.out.size))
  have Z0_1 := Lib.hid (Z0_0.out.below hb1 Z0_0.out.lt)
  simp only [World.size_alloc] at hr hg
  have HT1 := Lib.hid (Touch.refl w1 (some ⟨w.heap.size + 1, 0, none⟩) 1)
  have HR1 := Lib.hid hr
  have hq1 : (0 : Int) ≤ 0 := by omega
  clear hb1 hr
  go_wp2_with fail
  refine (sigs_any HR1.out (by omega)).mono ?_
  rintro e w2 ⟨a0, b0, d0, D0, fp0, q2, rfl, hm0, hf0, hsm0, hrd, hq2, ht⟩
  have hz2 := hrd.p0
  have HM0_2 := Lib.hid hm0
  have HF0 := Lib.hid hf0
  have HSM0 := Lib.hid hsm0
  clear hm0 hf0 hsm0
  have HR2 := Lib.hid hrd
  have HT2 := Lib.hid (HT1.out.trans ht)
  have hs2 := ht.size
  have Z0_2 := Lib.hid (ht.box Z0_1.out (fun a e => by injection e with e; subst e; show w.heap.size ≠ w.heap.size + 1; omega))
  clear hrd ht
  obtain ⟨A00, n00, c00, A01, n01, c01, A02, n02, c02, hcs⟩ := tySigs_shM HM0_2.out
  simp only [List.cons.injEq, and_true] at hcs
  obtain ⟨rfl, rfl, rfl⟩ := hcs
  have z00 := Z0_2.out.cell 0
  have e00 := Z0_2.out.frz 0
  have z01 := Z0_2.out.cell 1
  have e01 := Z0_2.out.frz 1
  have z02 := Z0_2.out.cell 2
  have e02 := Z0_2.out.frz 2
  have zl0 := Z0_2.out.lt
  simp at z00 z01 z02
  go_wp2_with fail
  refine bodyPost_ret (v := .agg #[.slice A00 n00 c00, .slice A01 n01 c01, .slice A02 n02 c02]) (by simp [results, Try.results39, go_sem, z00, z01, z02]) rfl ⟨.slice A00 n00 c00, .slice A01 n01 c01, .slice A02 n02 c02, D0, rfl, tySigs.mr (tySigs.mframe (tySigs.mframe (tySigs.mframe HM0_2.out fun b hb => heap_setCell_other _ ⟨w.heap.size, 0, none⟩ b _ (by have h := HF0.out b hb; show b ≠ w.heap.size; omega)) fun b hb => heap_setCell_other _ ⟨w.heap.size, 1, none⟩ b _ (by have h := HF0.out b hb; show b ≠ w.heap.size; omega)) fun b hb => heap_setCell_other _ ⟨w.heap.size, 2, none⟩ b _ (by have h := HF0.out b hb; show b ≠ w.heap.size; omega)) fun b hb => by have h := HF0.out b hb; simp only [World.size_setCell]; omega, HSM0.out, ((((HB1.out.trans (HT2.out.low (lo := w.heap.size) (by omega) (by omega))).setCell (p := ⟨w.heap.size, 0, none⟩) (by show w.heap.size ≤ w.heap.size; omega) _).setCell (p := ⟨w.heap.size, 1, none⟩) (by show w.heap.size ≤ w.heap.size; omega) _).setCell (p := ⟨w.heap.size, 2, none⟩) (by show w.heap.size ≤ w.heap.size; omega) _)⟩

set_option maxHeartbeats 1000000 in
set_option maxRecDepth 100000 in
theorem dDrawSigsFork_any (hc : Code w A n) (hcap : n ≤ c) (hcap2 : c ≤ maxLen) : Calls Try.prog 41 #[.slice A n c] w fun e w' => ∃ (y00 y01 y02 : Value) (D0 : Sg), e = .returned (.agg #[y00, y01, y02]) ∧ tySigs.R w' w'.heap.size [y00, y01, y02] D0 ∧ smallSigs D0 ∧ Below w.heap.size w w' := by
  have HA0 := Lib.hid (show Below w.heap.size w (w.alloc (.cells #[.slice none 0 0, .slice none 0 0, .slice none 0 0] 26)) from ((Below.refl _ _).alloc (Nat.le_refl _) _))
  have Z0_0 := Lib.hid (Box.new w #[.slice none 0 0, .slice none 0 0, .slice none 0 0] 26)
  go_enter Try.func41, Try.ntmps41
  go_wp2_with fail
  refine (open_any (hc.below HA0.out) hcap hcap2).mono ?_
  rintro e w1 ⟨A', n', c', rfl, hr, hb1⟩
  have hg := hr.box.lt
  have HB1 := Lib.hid (HA0.out.trans (hb1.mono HA0.out.size))
  have Z0_1 := Lib.hid (Z0_0.out.below hb1 Z0_0.out.lt)
  simp only [World.size_alloc] at hr hg
  have HT1 := Lib.hid (Touch.refl w1 (some ⟨w.heap.size + 1, 0, none⟩) 1)
  have HR1 := Lib.hid hr
  have hq1 : (0 : Int) ≤ 0 := by omega
  clear hb1 hr
  go_wp2_with fail
  refine (sigs_any HR1.out (by omega)).mono ?_
  rintro e w2 ⟨a0, b0, d0, D0, fp0, q2, rfl, hm0, hf0, hsm0, hrd, hq2, ht⟩
  have hz2 := hrd.p0
  have HM0_2 := Lib.hid hm0
  have HF0 := Lib.hid hf0
  have HSM0 := Lib.hid hsm0
  clear hm0 hf0 hsm0
  have HR2 := Lib.hid hrd
  have HT2 := Lib.hid (HT1.out.trans ht)
  have hs2 := ht.size
  have Z0_2 := Lib.hid (ht.box Z0_1.out (fun a e => by injection e with e; subst e; show w.heap.size ≠ w.heap.size + 1; omega))
  clear hrd ht
  obtain ⟨A00, n00, c00, A01, n01, c01, A02, n02, c02, hcs⟩ := tySigs_shM HM0_2.out
  simp only [List.cons.injEq, and_true] at hcs
  obtain ⟨rfl, rfl, rfl⟩ := hcs
  have z00 := Z0_2.out.cell 0
  have e00 := Z0_2.out.frz 0
  have z01 := Z0_2.out.cell 1
  have e01 := Z0_2.out.frz 1
  have z02 := Z0_2.out.cell 2
  have e02 := Z0_2.out.frz 2
  have zl0 := Z0_2.out.lt
  simp at z00 z01 z02
  go_wp2_with fail
  refine bodyPost_ret (v := .agg #[.slice A00 n00 c00, .slice A01 n01 c01, .slice A02 n02 c02]) (by simp [results, Try.results41, go_sem, z00, z01, z02]) rfl ⟨.slice A00 n00 c00, .slice A01 n01 c01, .slice A02 n02 c02, D0, rfl, tySigs.mr (tySigs.mframe (tySigs.mframe (tySigs.mframe HM0_2.out fun b hb => heap_setCell_other _ ⟨w.heap.size, 0, none⟩ b _ (by have h := HF0.out b hb; show b ≠ w.heap.size; omega)) fun b hb => heap_setCell_other _ ⟨w.heap.size, 1, none⟩ b _ (by have h := HF0.out b hb; show b ≠ w.heap.size; omega)) fun b hb => heap_setCell_other _ ⟨w.heap.size, 2, none⟩ b _ (by have h := HF0.out b hb; show b ≠ w.heap.size; omega)) fun b hb => by have h := HF0.out b hb; simp only [World.size_setCell]; omega, HSM0.out, ((((HB1.out.trans (HT2.out.low (lo := w.heap.size) (by omega) (by omega))).setCell (p := ⟨w.heap.size, 0, none⟩) (by show w.heap.size ≤ w.heap.size; omega) _).setCell (p := ⟨w.heap.size, 1, none⟩) (by show w.heap.size ≤ w.heap.size; omega) _).setCell (p := ⟨w.heap.size, 2, none⟩) (by show w.heap.size ≤ w.heap.size; omega) _)⟩

set_option maxHeartbeats 1000000 in
set_option maxRecDepth 100000 in
theorem dDrawSigsRun_any (hc : Code w A n) (hcap : n ≤ c) (hcap2 : c ≤ maxLen) : Calls Try.prog 45 #[.slice A n c] w fun e w' => ∃ (y00 y01 y02 : Value) (D0 : Sg), e = .returned (.agg #[y00, y01, y02]) ∧ tySigs.R w' w'.heap.size [y00, y01, y02] D0 ∧ smallSigs D0 ∧ Below w.heap.size w w' := by
  have HA0 := Lib.hid (show Below w.heap.size w (w.alloc (.cells #[.slice none 0 0, .slice none 0 0, .slice none 0 0] 26)) from ((Below.refl _ _).alloc (Nat.le_refl _) _))
  have Z0_0 := Lib.hid (Box.new w #[.slice none 0 0, .slice none 0 0, .slice none 0 0] 26)
  go_enter Try.func45, Try.ntmps45
  go_wp2_with fail
  refine (open_any (hc.below HA0.out) hcap hcap2).mono ?_
  rintro e w1 ⟨A', n', c', rfl, hr, hb1⟩
  have hg := hr.box.lt
  have HB1 := Lib.hid (HA0.out.trans (hb1.mono HA0.out.size))
  have Z0_1 := Lib.hid (Z0_0.out.below hb1 Z0_0.out.lt)
  simp only [World.size_alloc] at hr hg
  have HT1 := Lib.hid (Touch.refl w1 (some ⟨w.heap.size + 1, 0, none⟩) 1)
  have HR1 := Lib.hid hr
  have hq1 : (0 : Int) ≤ 0 := by omega
  clear hb1 hr
  go_wp2_with fail
  refine (sigs_any HR1.out (by omega)).mono ?_
  rintro e w2 ⟨a0, b0, d0, D0, fp0, q2, rfl, hm0, hf0, hsm0, hrd, hq2, ht⟩
  have hz2 := hrd.p0
  have HM0_2 := Lib.hid hm0
  have HF0 := Lib.hid hf0
  have HSM0 := Lib.hid hsm0
  clear hm0 hf0 hsm0
  have HR2 := Lib.hid hrd
  have HT2 := Lib.hid (HT1.out.trans ht)
  have hs2 := ht.size
  have Z0_2 := Lib.hid (ht.box Z0_1.out (fun a e => by injection e with e; subst e; show w.heap.size ≠ w.heap.size + 1; omega))
  clear hrd ht
  obtain ⟨A00, n00, c00, A01, n01, c01, A02, n02, c02, hcs⟩ := tySigs_shM HM0_2.out
  simp only [List.cons.injEq, and_true] at hcs
  obtain ⟨rfl, rfl, rfl⟩ := hcs
  have z00 := Z0_2.out.cell 0
  have e00 := Z0_2.out.frz 0
  have z01 := Z0_2.out.cell 1
  have e01 := Z0_2.out.frz 1
  have z02 := Z0_2.out.cell 2
  have e02 := Z0_2.out.frz 2
  have zl0 := Z0_2.out.lt
  simp at z00 z01 z02
  go_wp2_with fail
  refine bodyPost_ret (v := .agg #[.slice A00 n00 c00, .slice A01 n01 c01, .slice A02 n02 c02]) (by simp [results, Try.results45, go_sem, z00, z01, z02]) rfl ⟨.slice A00 n00 c00, .slice A01 n01 c01, .slice A02 n02 c02, D0, rfl, tySigs.mr (tySigs.mframe (tySigs.mframe (tySigs.mframe HM0_2.out fun b hb => heap_setCell_other _ ⟨w.heap.size, 0, none⟩ b _ (by have h := HF0.out b hb; show b ≠ w.heap.size; omega)) fun b hb => heap_setCell_other _ ⟨w.heap.size, 1, none⟩ b _ (by have h := HF0.out b hb; show b ≠ w.heap.size; omega)) fun b hb => heap_setCell_other _ ⟨w.heap.size, 2, none⟩ b _ (by have h := HF0.out b hb; show b ≠ w.heap.size; omega)) fun b hb => by have h := HF0.out b hb; simp only [World.size_setCell]; omega, HSM0.out, ((((HB1.out.trans (HT2.out.low (lo := w.heap.size) (by omega) (by omega))).setCell (p := ⟨w.heap.size, 0, none⟩) (by show w.heap.size ≤ w.heap.size; omega) _).setCell (p := ⟨w.heap.size, 1, none⟩) (by show w.heap.size ≤ w.heap.size; omega) _).setCell (p := ⟨w.heap.size, 2, none⟩) (by show w.heap.size ≤ w.heap.size; omega) _)⟩

set_option maxHeartbeats 1000000 in
set_option maxRecDepth 100000 in
theorem dDrawSigsSet_any (hc : Code w A n) (hcap : n ≤ c) (hcap2 : c ≤ maxLen) : Calls Try.prog 29 #[.slice A n c] w fun e w' => ∃ (y00 y01 y02 : Value) (D0 : Sg) (x0 : Int) (x1 : Int), e = .returned (.tuple #[.agg #[y00, y01, y02], .int .i64 x0, .int .i64 x1]) ∧ -1 ≤ x0 ∧ x0 < 10 ∧ 0 ≤ x1 ∧ x1 < 6 ∧ tySigs.R w' w'.heap.size [y00, y01, y02] D0 ∧ smallSigs D0 ∧ Below w.heap.size w w' := by
  have HA0 := Lib.hid (show Below w.heap.size w (w.alloc (.cells #[.slice none 0 0, .slice none 0 0, .slice none 0 0] 26)) from ((Below.refl _ _).alloc (Nat.le_refl _) _))
  have Z0_0 := Lib.hid (Box.new w #[.slice none 0 0, .slice none 0 0, .slice none 0 0] 26)
  go_enter Try.func29, Try.ntmps29
  go_wp2_with fail
  refine (open_any (hc.below HA0.out) hcap hcap2).mono ?_
  rintro e w1 ⟨A', n', c', rfl, hr, hb1⟩
  have hg := hr.box.lt
  have HB1 := Lib.hid (HA0.out.trans (hb1.mono HA0.out.size))
  have Z0_1 := Lib.hid (Z0_0.out.below hb1 Z0_0.out.lt)
  simp only [World.size_alloc] at hr hg
  have HT1 := Lib.hid (Touch.refl w1 (some ⟨w.heap.size + 1, 0, none⟩) 1)
  have HR1 := Lib.hid hr
  have hq1 : (0 : Int) ≤ 0 := by omega
  clear hb1 hr
  go_wp2_with fail
  refine (sigs_any HR1.out (by omega)).mono ?_
  rintro e w2 ⟨a0, b0, d0, D0, fp0, q2, rfl, hm0, hf0, hsm0, hrd, hq2, ht⟩
  have hz2 := hrd.p0
  have HM0_2 := Lib.hid hm0
  have HF0 := Lib.hid hf0
  have HSM0 := Lib.hid hsm0
  clear hm0 hf0 hsm0
  have HR2 := Lib.hid hrd
  have HT2 := Lib.hid (HT1.out.trans ht)
  have hs2 := ht.size
  have Z0_2 := Lib.hid (ht.box Z0_1.out (fun a e => by injection e with e; subst e; show w.heap.size ≠ w.heap.size + 1; omega))
  clear hrd ht
  go_wp2_with fail
  refine (pick2_any 11 (by omega) (by omega) HR2.out (by omega)).mono ?_
  rintro e w3 ⟨x3, rfl, lo3, up3, hrd, ht⟩
  have HR3 := Lib.hid hrd
  have HT3 := Lib.hid (HT2.out.trans ht)
  have hs3 := ht.size
  have Z0_3 := Lib.hid (ht.box Z0_2.out (fun a e => by injection e with e; subst e; show w.heap.size ≠ w.heap.size + 1; omega))
  have HM0_3 := Lib.hid (tySigs.mframe HM0_2.out fun b hb => ht.block b (by have h := HF0.out b hb; omega) fun _ a e => by injection e with e; subst e; have h := HF0.out b hb; show b ≠ w.heap.size + 1; omega)
  clear hrd ht
  go_wp2_with fail
  refine (pick2_any 6 (by omega) (by omega) HR3.out (by omega)).mono ?_
  rintro e w4 ⟨x4, rfl, lo4, up4, hrd, ht⟩
  have HR4 := Lib.hid hrd
  have HT4 := Lib.hid (HT3.out.trans ht)
  have hs4 := ht.size
  have Z0_4 := Lib.hid (ht.box Z0_3.out (fun a e => by injection e with e; subst e; show w.heap.size ≠ w.heap.size + 1; omega))
  have HM0_4 := Lib.hid (tySigs.mframe HM0_3.out fun b hb => ht.block b (by have h := HF0.out b hb; omega) fun _ a e => by injection e with e; subst e; have h := HF0.out b hb; show b ≠ w.heap.size + 1; omega)
  clear hrd ht
  obtain ⟨A00, n00, c00, A01, n01, c01, A02, n02, c02, hcs⟩ := tySigs_shM HM0_4.out
  simp only [List.cons.injEq, and_true] at hcs
  obtain ⟨rfl, rfl, rfl⟩ := hcs
  have z00 := Z0_4.out.cell 0
  have e00 := Z0_4.out.frz 0
  have z01 := Z0_4.out.cell 1
  have e01 := Z0_4.out.frz 1
  have z02 := Z0_4.out.cell 2
  have e02 := Z0_4.out.frz 2
  have zl0 := Z0_4.out.lt
  simp at z00 z01 z02
  go_wp2_with fail
  refine bodyPost_ret (v := .tuple #[.agg #[.slice A00 n00 c00, .slice A01 n01 c01, .slice A02 n02 c02], .int .i64 (x3 - 1), .int .i64 (x4)]) (by simp [results, Try.results29, go_sem, z00, z01, z02]) rfl ⟨.slice A00 n00 c00, .slice A01 n01 c01, .slice A02 n02 c02, D0, x3 - 1, x4, rfl, by omega, by omega, lo4, up4, tySigs.mr (tySigs.mframe (tySigs.mframe (tySigs.mframe HM0_4.out fun b hb => heap_setCell_other _ ⟨w.heap.size, 0, none⟩ b _ (by have h := HF0.out b hb; show b ≠ w.heap.size; omega)) fun b hb => heap_setCell_other _ ⟨w.heap.size, 1, none⟩ b _ (by have h := HF0.out b hb; show b ≠ w.heap.size; omega)) fun b hb => heap_setCell_other _ ⟨w.heap.size, 2, none⟩ b _ (by have h := HF0.out b hb; show b ≠ w.heap.size; omega)) fun b hb => by have h := HF0.out b hb; simp only [World.size_setCell]; omega, HSM0.out, ((((HB1.out.trans (HT4.out.low (lo := w.heap.size) (by omega) (by omega))).setCell (p := ⟨w.heap.size, 0, none⟩) (by show w.heap.size ≤ w.heap.size; omega) _).setCell (p := ⟨w.heap.size, 1, none⟩) (by show w.heap.size ≤ w.heap.size; omega) _).setCell (p := ⟨w.heap.size, 2, none⟩) (by show w.heap.size ≤ w.heap.size; omega) _)⟩

set_option maxHeartbeats 1000000 in
set_option maxRecDepth 100000 in
theorem dDrawSigsSend_any (hc : Code w A n) (hcap : n ≤ c) (hcap2 : c ≤ maxLen) : Calls Try.prog 36 #[.slice A n c] w fun e w' => ∃ (y00 y01 y02 : Value) (D0 : Sg) (x0 : Int), e = .returned (.tuple #[.agg #[y00, y01, y02], .int .i64 x0]) ∧ -1 ≤ x0 ∧ x0 < 10 ∧ tySigs.R w' w'.heap.size [y00, y01, y02] D0 ∧ smallSigs D0 ∧ Below w.heap.size w w' := by
  have HA0 := Lib.hid (show Below w.heap.size w (w.alloc (.cells #[.slice none 0 0, .slice none 0 0, .slice none 0 0] 26)) from ((Below.refl _ _).alloc (Nat.le_refl _) _))
  have Z0_0 := Lib.hid (Box.new w #[.slice none 0 0, .slice none 0 0, .slice none 0 0] 26)
  go_enter Try.func36, Try.ntmps36
  go_wp2_with fail
  refine (open_any (hc.below HA0.out) hcap hcap2).mono ?_
  rintro e w1 ⟨A', n', c', rfl, hr, hb1⟩
  have hg := hr.box.lt
  have HB1 := Lib.hid (HA0.out.trans (hb1.mono HA0.out.size))
  have Z0_1 := Lib.hid (Z0_0.out.below hb1 Z0_0.out.lt)
  simp only [World.size_alloc] at hr hg
  have HT1 := Lib.hid (Touch.refl w1 (some ⟨w.heap.size + 1, 0, none⟩) 1)
  have HR1 := Lib.hid hr
  have hq1 : (0 : Int) ≤ 0 := by omega
  clear hb1 hr
  go_wp2_with fail
  refine (sigs_any HR1.out (by omega)).mono ?_
  rintro e w2 ⟨a0, b0, d0, D0, fp0, q2, rfl, hm0, hf0, hsm0, hrd, hq2, ht⟩
  have hz2 := hrd.p0
  have HM0_2 := Lib.hid hm0
  have HF0 := Lib.hid hf0
  have HSM0 := Lib.hid hsm0
  clear hm0 hf0 hsm0
  have HR2 := Lib.hid hrd
  have HT2 := Lib.hid (HT1.out.trans ht)
  have hs2 := ht.size
  have Z0_2 := Lib.hid (ht.box Z0_1.out (fun a e => by injection e with e; subst e; show w.heap.size ≠ w.heap.size + 1; omega))
  clear hrd ht
  go_wp2_with fail
  refine (pick2_any 11 (by omega) (by omega) HR2.out (by omega)).mono ?_
  rintro e w3 ⟨x3, rfl, lo3, up3, hrd, ht⟩
  have HR3 := Lib.hid hrd
  have HT3 := Lib.hid (HT2.out.trans ht)
  have hs3 := ht.size
  have Z0_3 := Lib.hid (ht.box Z0_2.out (fun a e => by injection e with e; subst e; show w.heap.size ≠ w.heap.size + 1; omega))
  have HM0_3 := Lib.hid (tySigs.mframe HM0_2.out fun b hb => ht.block b (by have h := HF0.out b hb; omega) fun _ a e => by injection e with e; subst e; have h := HF0.out b hb; show b ≠ w.heap.size + 1; omega)
  clear hrd ht
  obtain ⟨A00, n00, c00, A01, n01, c01, A02, n02, c02, hcs⟩ := tySigs_shM HM0_3.out
  simp only [List.cons.injEq, and_true] at hcs
  obtain ⟨rfl, rfl, rfl⟩ := hcs
  have z00 := Z0_3.out.cell 0
  have e00 := Z0_3.out.frz 0
  have z01 := Z0_3.out.cell 1
  have e01 := Z0_3.out.frz 1
  have z02 := Z0_3.out.cell 2
  have e02 := Z0_3.out.frz 2
  have zl0 := Z0_3.out.lt
  simp at z00 z01 z02
  go_wp2_with fail
  refine bodyPost_ret (v := .tuple #[.agg #[.slice A00 n00 c00, .slice A01 n01 c01, .slice A02 n02 c02], .int .i64 (x3 - 1)]) (by simp [results, Try.results36, go_sem, z00, z01, z02]) rfl ⟨.slice A00 n00 c00, .slice A01 n01 c01, .slice A02 n02 c02, D0, x3 - 1, rfl, by omega, by omega, tySigs.mr (tySigs.mframe (tySigs.mframe (tySigs.mframe HM0_3.out fun b hb => heap_setCell_other _ ⟨w.heap.size, 0, none⟩ b _ (by have h := HF0.out b hb; show b ≠ w.heap.size; omega)) fun b hb => heap_setCell_other _ ⟨w.heap.size, 1, none⟩ b _ (by have h := HF0.out b hb; show b ≠ w.heap.size; omega)) fun b hb => heap_setCell_other _ ⟨w.heap.size, 2, none⟩ b _ (by have h := HF0.out b hb; show b ≠ w.heap.size; omega)) fun b hb => by have h := HF0.out b hb; simp only [World.size_setCell]; omega, HSM0.out, ((((HB1.out.trans (HT3.out.low (lo := w.heap.size) (by omega) (by omega))).setCell (p := ⟨w.heap.size, 0, none⟩) (by show w.heap.size ≤ w.heap.size; omega) _).setCell (p := ⟨w.heap.size, 1, none⟩) (by show w.heap.size ≤ w.heap.size; omega) _).setCell (p := ⟨w.heap.size, 2, none⟩) (by show w.heap.size ≤ w.heap.size; omega) _)⟩

end
end Go.Proofs.Ytncinocpdeokgaa
