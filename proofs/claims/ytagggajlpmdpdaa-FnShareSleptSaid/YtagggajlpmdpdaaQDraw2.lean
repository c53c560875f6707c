/-
  The draws of what the functions of chapter 11 are asked.
-/
import Derived.Test.YtagggajlpmdpdaaQDraw
namespace Go.Proofs.Ytagggajlpmdpdaa
open Go.RowKit

section
variable {A : Option Addr} {n c : Nat} {w : World}
def DDrawQueueOk (w : World) (e : Ending) (w' : World) : Prop := ∃ (A9 : Option Addr) (n9 c9 : Nat) (D : Qu) (fp : List Nat) , e = .returned (.agg #[.slice A9 n9 c9, .int .i64 D.2]) ∧ tyQueue.M w' fp [.slice A9 n9 c9, .int .i64 D.2] D ∧ (∀ b ∈ fp, w.heap.size ≤ b ∧ b < w'.heap.size) ∧ D.1.length ≤ 6 ∧ n9 ≤ c9 ∧ Below w.heap.size w w'
set_option maxHeartbeats 1000000 in
set_option maxRecDepth 100000 in
theorem dDrawQueueOk_any (hc : Code w A n) (hcap : n ≤ c) (hcap2 : c ≤ maxLen) : Calls Try.prog 23 #[.slice A n c] w (DDrawQueueOk w) := by
  have HA0 := Lib.hid (show Below w.heap.size w (w.alloc (.cells #[.slice none 0 0, .int .i64 0] 25)) from (Below.refl _ _).alloc (Nat.le_refl _) _)
  have Z_0 := Lib.hid (Box.new w #[.slice none 0 0, .int .i64 0] 25)
  go_enter Try.func23, Try.ntmps23
  go_wp2_with fail
  refine (open_any (hc.below HA0.out) hcap hcap2).mono ?_
  rintro e w1 ⟨A', n', c', rfl, hr, hb1⟩
  have hg := hr.box.lt
  have HB1 := Lib.hid (HA0.out.trans (hb1.mono HA0.out.size))
  have Z_1 := Lib.hid (Z_0.out.below hb1 Z_0.out.lt)
  simp only [World.size_alloc] at hr hg
  have HR1 := Lib.hid hr
  clear hb1 hr
  go_wp2_with fail
  refine (queue_any HR1.out (by omega)).mono ?_
  rintro e w2 ⟨A9, n9, c9, D, fp, q2, rfl, hm, hf, hl6, hcq, hrd, hq2, ht⟩
  have hz2 := hrd.p0
  have HM_2 := Lib.hid hm
  have HF := Lib.hid hf
  have HL6 := Lib.hid hl6
  have HCQ := Lib.hid hcq
  have HR2 := Lib.hid hrd
  have HT2 := Lib.hid ht
  have hs2 := ht.size
  have Z_2 := Lib.hid (ht.box Z_1.out (fun a e => by injection e with e; subst e; show w.heap.size ≠ w.heap.size + 1; omega))
  clear hm hf hl6 hcq hrd ht
  have z0 := Z_2.out.cell 0
  have z1 := Z_2.out.cell 1
  have e0 := Z_2.out.frz 0
  have e1 := Z_2.out.frz 1
  have zl := Z_2.out.lt
  simp at z0 z1
  go_wp2_with fail
  exact bodyPost_ret (v := .agg #[.slice A9 n9 c9, .int .i64 D.2]) (by simp [results, Try.results23, go_sem, z0, z1]) rfl ⟨A9, n9, c9, D, fp, rfl, (tyQueue.mframe (tyQueue.mframe HM_2.out fun b hb => heap_setCell_other _ ⟨w.heap.size, 0, none⟩ b _ (by have h := HF.out b hb; show b ≠ w.heap.size; omega)) fun b hb => heap_setCell_other _ ⟨w.heap.size, 1, none⟩ b _ (by have h := HF.out b hb; show b ≠ w.heap.size; omega)), (fun b hb => by have h := HF.out b hb; simp only [World.size_setCell]; omega), HL6.out, HCQ.out, (((HB1.out.trans (HT2.out.low (lo := w.heap.size) (by omega) (by omega))).setCell (p := ⟨w.heap.size, 0, none⟩) (by show w.heap.size ≤ w.heap.size; omega) _).setCell (p := ⟨w.heap.size, 1, none⟩) (by show w.heap.size ≤ w.heap.size; omega) _)⟩

def DDrawQueueNext (w : World) (e : Ending) (w' : World) : Prop := ∃ (A9 : Option Addr) (n9 c9 : Nat) (D : Qu) (fp : List Nat) , e = .returned (.agg #[.slice A9 n9 c9, .int .i64 D.2]) ∧ tyQueue.M w' fp [.slice A9 n9 c9, .int .i64 D.2] D ∧ (∀ b ∈ fp, w.heap.size ≤ b ∧ b < w'.heap.size) ∧ D.1.length ≤ 6 ∧ n9 ≤ c9 ∧ Below w.heap.size w w'
set_option maxHeartbeats 1000000 in
set_option maxRecDepth 100000 in
theorem dDrawQueueNext_any (hc : Code w A n) (hcap : n ≤ c) (hcap2 : c ≤ maxLen) : Calls Try.prog 35 #[.slice A n c] w (DDrawQueueNext w) := by
  have HA0 := Lib.hid (show Below w.heap.size w (w.alloc (.cells #[.slice none 0 0, .int .i64 0] 25)) from (Below.refl _ _).alloc (Nat.le_refl _) _)
  have Z_0 := Lib.hid (Box.new w #[.slice none 0 0, .int .i64 0] 25)
  go_enter Try.func35, Try.ntmps35
  go_wp2_with fail
  refine (open_any (hc.below HA0.out) hcap hcap2).mono ?_
  rintro e w1 ⟨A', n', c', rfl, hr, hb1⟩
  have hg := hr.box.lt
  have HB1 := Lib.hid (HA0.out.trans (hb1.mono HA0.out.size))
  have Z_1 := Lib.hid (Z_0.out.below hb1 Z_0.out.lt)
  simp only [World.size_alloc] at hr hg
  have HR1 := Lib.hid hr
  clear hb1 hr
  go_wp2_with fail
  refine (queue_any HR1.out (by omega)).mono ?_
  rintro e w2 ⟨A9, n9, c9, D, fp, q2, rfl, hm, hf, hl6, hcq, hrd, hq2, ht⟩
  have hz2 := hrd.p0
  have HM_2 := Lib.hid hm
  have HF := Lib.hid hf
  have HL6 := Lib.hid hl6
  have HCQ := Lib.hid hcq
  have HR2 := Lib.hid hrd
  have HT2 := Lib.hid ht
  have hs2 := ht.size
  have Z_2 := Lib.hid (ht.box Z_1.out (fun a e => by injection e with e; subst e; show w.heap.size ≠ w.heap.size + 1; omega))
  clear hm hf hl6 hcq hrd ht
  have z0 := Z_2.out.cell 0
  have z1 := Z_2.out.cell 1
  have e0 := Z_2.out.frz 0
  have e1 := Z_2.out.frz 1
  have zl := Z_2.out.lt
  simp at z0 z1
  go_wp2_with fail
  exact bodyPost_ret (v := .agg #[.slice A9 n9 c9, .int .i64 D.2]) (by simp [results, Try.results35, go_sem, z0, z1]) rfl ⟨A9, n9, c9, D, fp, rfl, (tyQueue.mframe (tyQueue.mframe HM_2.out fun b hb => heap_setCell_other _ ⟨w.heap.size, 0, none⟩ b _ (by have h := HF.out b hb; show b ≠ w.heap.size; omega)) fun b hb => heap_setCell_other _ ⟨w.heap.size, 1, none⟩ b _ (by have h := HF.out b hb; show b ≠ w.heap.size; omega)), (fun b hb => by have h := HF.out b hb; simp only [World.size_setCell]; omega), HL6.out, HCQ.out, (((HB1.out.trans (HT2.out.low (lo := w.heap.size) (by omega) (by omega))).setCell (p := ⟨w.heap.size, 0, none⟩) (by show w.heap.size ≤ w.heap.size; omega) _).setCell (p := ⟨w.heap.size, 1, none⟩) (by show w.heap.size ≤ w.heap.size; omega) _)⟩

def DDrawQueueTick (w : World) (e : Ending) (w' : World) : Prop := ∃ (A9 : Option Addr) (n9 c9 : Nat) (D : Qu) (fp : List Nat) , e = .returned (.agg #[.slice A9 n9 c9, .int .i64 D.2]) ∧ tyQueue.M w' fp [.slice A9 n9 c9, .int .i64 D.2] D ∧ (∀ b ∈ fp, w.heap.size ≤ b ∧ b < w'.heap.size) ∧ D.1.length ≤ 6 ∧ n9 ≤ c9 ∧ Below w.heap.size w w'
set_option maxHeartbeats 1000000 in
set_option maxRecDepth 100000 in
theorem dDrawQueueTick_any (hc : Code w A n) (hcap : n ≤ c) (hcap2 : c ≤ maxLen) : Calls Try.prog 37 #[.slice A n c] w (DDrawQueueTick w) := by
  have HA0 := Lib.hid (show Below w.heap.size w (w.alloc (.cells #[.slice none 0 0, .int .i64 0] 25)) from (Below.refl _ _).alloc (Nat.le_refl _) _)
  have Z_0 := Lib.hid (Box.new w #[.slice none 0 0, .int .i64 0] 25)
  go_enter Try.func37, Try.ntmps37
  go_wp2_with fail
  refine (open_any (hc.below HA0.out) hcap hcap2).mono ?_
  rintro e w1 ⟨A', n', c', rfl, hr, hb1⟩
  have hg := hr.box.lt
  have HB1 := Lib.hid (HA0.out.trans (hb1.mono HA0.out.size))
  have Z_1 := Lib.hid (Z_0.out.below hb1 Z_0.out.lt)
  simp only [World.size_alloc] at hr hg
  have HR1 := Lib.hid hr
  clear hb1 hr
  go_wp2_with fail
  refine (queue_any HR1.out (by omega)).mono ?_
  rintro e w2 ⟨A9, n9, c9, D, fp, q2, rfl, hm, hf, hl6, hcq, hrd, hq2, ht⟩
  have hz2 := hrd.p0
  have HM_2 := Lib.hid hm
  have HF := Lib.hid hf
  have HL6 := Lib.hid hl6
  have HCQ := Lib.hid hcq
  have HR2 := Lib.hid hrd
  have HT2 := Lib.hid ht
  have hs2 := ht.size
  have Z_2 := Lib.hid (ht.box Z_1.out (fun a e => by injection e with e; subst e; show w.heap.size ≠ w.heap.size + 1; omega))
  clear hm hf hl6 hcq hrd ht
  have z0 := Z_2.out.cell 0
  have z1 := Z_2.out.cell 1
  have e0 := Z_2.out.frz 0
  have e1 := Z_2.out.frz 1
  have zl := Z_2.out.lt
  simp at z0 z1
  go_wp2_with fail
  exact bodyPost_ret (v := .agg #[.slice A9 n9 c9, .int .i64 D.2]) (by simp [results, Try.results37, go_sem, z0, z1]) rfl ⟨A9, n9, c9, D, fp, rfl, (tyQueue.mframe (tyQueue.mframe HM_2.out fun b hb => heap_setCell_other _ ⟨w.heap.size, 0, none⟩ b _ (by have h := HF.out b hb; show b ≠ w.heap.size; omega)) fun b hb => heap_setCell_other _ ⟨w.heap.size, 1, none⟩ b _ (by have h := HF.out b hb; show b ≠ w.heap.size; omega)), (fun b hb => by have h := HF.out b hb; simp only [World.size_setCell]; omega), HL6.out, HCQ.out, (((HB1.out.trans (HT2.out.low (lo := w.heap.size) (by omega) (by omega))).setCell (p := ⟨w.heap.size, 0, none⟩) (by show w.heap.size ≤ w.heap.size; omega) _).setCell (p := ⟨w.heap.size, 1, none⟩) (by show w.heap.size ≤ w.heap.size; omega) _)⟩

def DDrawQueueAdd (w : World) (e : Ending) (w' : World) : Prop := ∃ (A9 : Option Addr) (n9 c9 : Nat) (D : Qu) (fp : List Nat) (x0 : Int) (x1 : Int), e = .returned (.tuple #[.agg #[.slice A9 n9 c9, .int .i64 D.2], .int .i64 x0, .int .i64 x1]) ∧ -1 ≤ x0 ∧ x0 ≤ 8 ∧ 0 ≤ x1 ∧ x1 < 8 ∧ tyQueue.M w' fp [.slice A9 n9 c9, .int .i64 D.2] D ∧ (∀ b ∈ fp, w.heap.size ≤ b ∧ b < w'.heap.size) ∧ D.1.length ≤ 6 ∧ n9 ≤ c9 ∧ Below w.heap.size w w'
set_option maxHeartbeats 1000000 in
set_option maxRecDepth 100000 in
theorem dDrawQueueAdd_any (hc : Code w A n) (hcap : n ≤ c) (hcap2 : c ≤ maxLen) : Calls Try.prog 28 #[.slice A n c] w (DDrawQueueAdd w) := by
  have HA0 := Lib.hid (show Below w.heap.size w (w.alloc (.cells #[.slice none 0 0, .int .i64 0] 25)) from (Below.refl _ _).alloc (Nat.le_refl _) _)
  have Z_0 := Lib.hid (Box.new w #[.slice none 0 0, .int .i64 0] 25)
  go_enter Try.func28, Try.ntmps28
  go_wp2_with fail
  refine (open_any (hc.below HA0.out) hcap hcap2).mono ?_
  rintro e w1 ⟨A', n', c', rfl, hr, hb1⟩
  have hg := hr.box.lt
  have HB1 := Lib.hid (HA0.out.trans (hb1.mono HA0.out.size))
  have Z_1 := Lib.hid (Z_0.out.below hb1 Z_0.out.lt)
  simp only [World.size_alloc] at hr hg
  have HR1 := Lib.hid hr
  clear hb1 hr
  go_wp2_with fail
  refine (queue_any HR1.out (by omega)).mono ?_
  rintro e w2 ⟨A9, n9, c9, D, fp, q2, rfl, hm, hf, hl6, hcq, hrd, hq2, ht⟩
  have hz2 := hrd.p0
  have HM_2 := Lib.hid hm
  have HF := Lib.hid hf
  have HL6 := Lib.hid hl6
  have HCQ := Lib.hid hcq
  have HR2 := Lib.hid hrd
  have HT2 := Lib.hid ht
  have hs2 := ht.size
  have Z_2 := Lib.hid (ht.box Z_1.out (fun a e => by injection e with e; subst e; show w.heap.size ≠ w.heap.size + 1; omega))
  clear hm hf hl6 hcq hrd ht
  go_wp2_with fail
  refine (pick2_any 9 (by omega) (by omega) HR2.out (by omega)).mono ?_
  rintro e w3 ⟨x3, rfl, lo3, up3, hrd, ht⟩
  have HR3 := Lib.hid hrd
  have HT3 := Lib.hid (HT2.out.trans ht)
  have hs3 := ht.size
  have Z_3 := Lib.hid (ht.box Z_2.out (fun a e => by injection e with e; subst e; show w.heap.size ≠ w.heap.size + 1; omega))
  have HM_3 := Lib.hid (tyQueue.mframe HM_2.out fun b hb => ht.block b (by have h := HF.out b hb; omega) fun _ a e => by injection e with e; subst e; have h := HF.out b hb; show b ≠ w.heap.size + 1; omega)
  clear hrd ht
  go_wp2_with fail
  refine (pick2_any 9 (by omega) (by omega) HR3.out (by omega)).mono ?_
  rintro e w4 ⟨x4, rfl, lo4, up4, hrd, ht⟩
  have HR4 := Lib.hid hrd
  have HT4 := Lib.hid (HT3.out.trans ht)
  have hs4 := ht.size
  have Z_4 := Lib.hid (ht.box Z_3.out (fun a e => by injection e with e; subst e; show w.heap.size ≠ w.heap.size + 1; omega))
  have HM_4 := Lib.hid (tyQueue.mframe HM_3.out fun b hb => ht.block b (by have h := HF.out b hb; omega) fun _ a e => by injection e with e; subst e; have h := HF.out b hb; show b ≠ w.heap.size + 1; omega)
  clear hrd ht
  go_wp2_with fail
  refine (pick2_any 8 (by omega) (by omega) HR4.out (by omega)).mono ?_
  rintro e w5 ⟨x5, rfl, lo5, up5, hrd, ht⟩
  have HR5 := Lib.hid hrd
  have HT5 := Lib.hid (HT4.out.trans ht)
  have hs5 := ht.size
  have Z_5 := Lib.hid (ht.box Z_4.out (fun a e => by injection e with e; subst e; show w.heap.size ≠ w.heap.size + 1; omega))
  have HM_5 := Lib.hid (tyQueue.mframe HM_4.out fun b hb => ht.block b (by have h := HF.out b hb; omega) fun _ a e => by injection e with e; subst e; have h := HF.out b hb; show b ≠ w.heap.size + 1; omega)
  clear hrd ht
  have hdv : 0 ≤ x4 / 8 ∧ x4 / 8 ≤ 1 := by omega
  have z0 := Z_5.out.cell 0
  have z1 := Z_5.out.cell 1
  have e0 := Z_5.out.frz 0
  have e1 := Z_5.out.frz 1
  have zl := Z_5.out.lt
  simp at z0 z1
  go_wp2_with fail
  exact bodyPost_ret (v := .tuple #[.agg #[.slice A9 n9 c9, .int .i64 D.2], .int .i64 (x3 - x4 / 8), .int .i64 (x5)]) (by simp [results, Try.results28, go_sem, z0, z1]) rfl ⟨A9, n9, c9, D, fp, x3 - x4 / 8, x5, rfl, by omega, by omega, lo5, up5, (tyQueue.mframe (tyQueue.mframe HM_5.out fun b hb => heap_setCell_other _ ⟨w.heap.size, 0, none⟩ b _ (by have h := HF.out b hb; show b ≠ w.heap.size; omega)) fun b hb => heap_setCell_other _ ⟨w.heap.size, 1, none⟩ b _ (by have h := HF.out b hb; show b ≠ w.heap.size; omega)), (fun b hb => by have h := HF.out b hb; simp only [World.size_setCell]; omega), HL6.out, HCQ.out, (((HB1.out.trans (HT5.out.low (lo := w.heap.size) (by omega) (by omega))).setCell (p := ⟨w.heap.size, 0, none⟩) (by show w.heap.size ≤ w.heap.size; omega) _).setCell (p := ⟨w.heap.size, 1, none⟩) (by show w.heap.size ≤ w.heap.size; omega) _)⟩

def DDrawQueueLess (w : World) (e : Ending) (w' : World) : Prop := ∃ (A9 : Option Addr) (n9 c9 : Nat) (D : Qu) (fp : List Nat) (x0 : Int), e = .returned (.tuple #[.agg #[.slice A9 n9 c9, .int .i64 D.2], .int .i64 x0]) ∧ 0 ≤ x0 ∧ x0 < 8 ∧ tyQueue.M w' fp [.slice A9 n9 c9, .int .i64 D.2] D ∧ (∀ b ∈ fp, w.heap.size ≤ b ∧ b < w'.heap.size) ∧ D.1.length ≤ 6 ∧ n9 ≤ c9 ∧ Below w.heap.size w w'
set_option maxHeartbeats 1000000 in
set_option maxRecDepth 100000 in
theorem dDrawQueueLess_any (hc : Code w A n) (hcap : n ≤ c) (hcap2 : c ≤ maxLen) : Calls Try.prog 32 #[.slice A n c] w (DDrawQueueLess w) := by
  have HA0 := Lib.hid (show Below w.heap.size w (w.alloc (.cells #[.slice none 0 0, .int .i64 0] 25)) from (Below.refl _ _).alloc (Nat.le_refl _) _)
  have Z_0 := Lib.hid (Box.new w #[.slice none 0 0, .int .i64 0] 25)
  go_enter Try.func32, Try.ntmps32
  go_wp2_with fail
  refine (open_any (hc.below HA0.out) hcap hcap2).mono ?_
  rintro e w1 ⟨A', n', c', rfl, hr, hb1⟩
  have hg := hr.box.lt
  have HB1 := Lib.hid (HA0.out.trans (hb1.mono HA0.out.size))
  have Z_1 := Lib.hid (Z_0.out.below hb1 Z_0.out.lt)
  simp only [World.size_alloc] at hr hg
  have HR1 := Lib.hid hr
  clear hb1 hr
  go_wp2_with fail
  refine (queue_any HR1.out (by omega)).mono ?_
  rintro e w2 ⟨A9, n9, c9, D, fp, q2, rfl, hm, hf, hl6, hcq, hrd, hq2, ht⟩
  have hz2 := hrd.p0
  have HM_2 := Lib.hid hm
  have HF := Lib.hid hf
  have HL6 := Lib.hid hl6
  have HCQ := Lib.hid hcq
  have HR2 := Lib.hid hrd
  have HT2 := Lib.hid ht
  have hs2 := ht.size
  have Z_2 := Lib.hid (ht.box Z_1.out (fun a e => by injection e with e; subst e; show w.heap.size ≠ w.heap.size + 1; omega))
  clear hm hf hl6 hcq hrd ht
  go_wp2_with fail
  refine (pick2_any 8 (by omega) (by omega) HR2.out (by omega)).mono ?_
  rintro e w3 ⟨x3, rfl, lo3, up3, hrd, ht⟩
  have HR3 := Lib.hid hrd
  have HT3 := Lib.hid (HT2.out.trans ht)
  have hs3 := ht.size
  have Z_3 := Lib.hid (ht.box Z_2.out (fun a e => by injection e with e; subst e; show w.heap.size ≠ w.heap.size + 1; omega))
  have HM_3 := Lib.hid (tyQueue.mframe HM_2.out fun b hb => ht.block b (by have h := HF.out b hb; omega) fun _ a e => by injection e with e; subst e; have h := HF.out b hb; show b ≠ w.heap.size + 1; omega)
  clear hrd ht
  have z0 := Z_3.out.cell 0
  have z1 := Z_3.out.cell 1
  have e0 := Z_3.out.frz 0
  have e1 := Z_3.out.frz 1
  have zl := Z_3.out.lt
  simp at z0 z1
  go_wp2_with fail
  exact bodyPost_ret (v := .tuple #[.agg #[.slice A9 n9 c9, .int .i64 D.2], .int .i64 (x3)]) (by simp [results, Try.results32, go_sem, z0, z1]) rfl ⟨A9, n9, c9, D, fp, x3, rfl, lo3, up3, (tyQueue.mframe (tyQueue.mframe HM_3.out fun b hb => heap_setCell_other _ ⟨w.heap.size, 0, none⟩ b _ (by have h := HF.out b hb; show b ≠ w.heap.size; omega)) fun b hb => heap_setCell_other _ ⟨w.heap.size, 1, none⟩ b _ (by have h := HF.out b hb; show b ≠ w.heap.size; omega)), (fun b hb => by have h := HF.out b hb; simp only [World.size_setCell]; omega), HL6.out, HCQ.out, (((HB1.out.trans (HT3.out.low (lo := w.heap.size) (by omega) (by omega))).setCell (p := ⟨w.heap.size, 0, none⟩) (by show w.heap.size ≤ w.heap.size; omega) _).setCell (p := ⟨w.heap.size, 1, none⟩) (by show w.heap.size ≤ w.heap.size; omega) _)⟩

def DDrawQueueSleep (w : World) (e : Ending) (w' : World) : Prop := ∃ (A9 : Option Addr) (n9 c9 : Nat) (D : Qu) (fp : List Nat) (x0 : Int), e = .returned (.tuple #[.agg #[.slice A9 n9 c9, .int .i64 D.2], .int .i64 x0]) ∧ 0 ≤ x0 ∧ x0 < 8 ∧ tyQueue.M w' fp [.slice A9 n9 c9, .int .i64 D.2] D ∧ (∀ b ∈ fp, w.heap.size ≤ b ∧ b < w'.heap.size) ∧ D.1.length ≤ 6 ∧ n9 ≤ c9 ∧ Below w.heap.size w w'
set_option maxHeartbeats 1000000 in
set_option maxRecDepth 100000 in
theorem dDrawQueueSleep_any (hc : Code w A n) (hcap : n ≤ c) (hcap2 : c ≤ maxLen) : Calls Try.prog 40 #[.slice A n c] w (DDrawQueueSleep w) := by
  have HA0 := Lib.hid (show Below w.heap.size w (w.alloc (.cells #[.slice none 0 0, .int .i64 0] 25)) from (Below.refl _ _).alloc (Nat.le_refl _) _)
  have Z_0 := Lib.hid (Box.new w #[.slice none 0 0, .int .i64 0] 25)
  go_enter Try.func40, Try.ntmps40
  go_wp2_with fail
  refine (open_any (hc.below HA0.out) hcap hcap2).mono ?_
  rintro e w1 ⟨A', n', c', rfl, hr, hb1⟩
  have hg := hr.box.lt
  have HB1 := Lib.hid (HA0.out.trans (hb1.mono HA0.out.size))
  have Z_1 := Lib.hid (Z_0.out.below hb1 Z_0.out.lt)
  simp only [World.size_alloc] at hr hg
  have HR1 := Lib.hid hr
  clear hb1 hr
  go_wp2_with fail
  refine (queue_any HR1.out (by omega)).mono ?_
  rintro e w2 ⟨A9, n9, c9, D, fp, q2, rfl, hm, hf, hl6, hcq, hrd, hq2, ht⟩
  have hz2 := hrd.p0
  have HM_2 := Lib.hid hm
  have HF := Lib.hid hf
  have HL6 := Lib.hid hl6
  have HCQ := Lib.hid hcq
  have HR2 := Lib.hid hrd
  have HT2 := Lib.hid ht
  have hs2 := ht.size
  have Z_2 := Lib.hid (ht.box Z_1.out (fun a e => by injection e with e; subst e; show w.heap.size ≠ w.heap.size + 1; omega))
  clear hm hf hl6 hcq hrd ht
  go_wp2_with fail
  refine (pick2_any 8 (by omega) (by omega) HR2.out (by omega)).mono ?_
  rintro e w3 ⟨x3, rfl, lo3, up3, hrd, ht⟩
  have HR3 := Lib.hid hrd
  have HT3 := Lib.hid (HT2.out.trans ht)
  have hs3 := ht.size
  have Z_3 := Lib.hid (ht.box Z_2.out (fun a e => by injection e with e; subst e; show w.heap.size ≠ w.heap.size + 1; omega))
  have HM_3 := Lib.hid (tyQueue.mframe HM_2.out fun b hb => ht.block b (by have h := HF.out b hb; omega) fun _ a e => by injection e with e; subst e; have h := HF.out b hb; show b ≠ w.heap.size + 1; omega)
  clear hrd ht
  have z0 := Z_3.out.cell 0
  have z1 := Z_3.out.cell 1
  have e0 := Z_3.out.frz 0
  have e1 := Z_3.out.frz 1
  have zl := Z_3.out.lt
  simp at z0 z1
  go_wp2_with fail
  exact bodyPost_ret (v := .tuple #[.agg #[.slice A9 n9 c9, .int .i64 D.2], .int .i64 (x3)]) (by simp [results, Try.results40, go_sem, z0, z1]) rfl ⟨A9, n9, c9, D, fp, x3, rfl, lo3, up3, (tyQueue.mframe (tyQueue.mframe HM_3.out fun b hb => heap_setCell_other _ ⟨w.heap.size, 0, none⟩ b _ (by have h := HF.out b hb; show b ≠ w.heap.size; omega)) fun b hb => heap_setCell_other _ ⟨w.heap.size, 1, none⟩ b _ (by have h := HF.out b hb; show b ≠ w.heap.size; omega)), (fun b hb => by have h := HF.out b hb; simp only [World.size_setCell]; omega), HL6.out, HCQ.out, (((HB1.out.trans (HT3.out.low (lo := w.heap.size) (by omega) (by omega))).setCell (p := ⟨w.heap.size, 0, none⟩) (by show w.heap.size ≤ w.heap.size; omega) _).setCell (p := ⟨w.heap.size, 1, none⟩) (by show w.heap.size ≤ w.heap.size; omega) _)⟩

def DDrawQueueWake (w : World) (e : Ending) (w' : World) : Prop := ∃ (A9 : Option Addr) (n9 c9 : Nat) (D : Qu) (fp : List Nat) (x0 : Int), e = .returned (.tuple #[.agg #[.slice A9 n9 c9, .int .i64 D.2], .int .i64 x0]) ∧ 0 ≤ x0 ∧ x0 < 8 ∧ tyQueue.M w' fp [.slice A9 n9 c9, .int .i64 D.2] D ∧ (∀ b ∈ fp, w.heap.size ≤ b ∧ b < w'.heap.size) ∧ D.1.length ≤ 6 ∧ n9 ≤ c9 ∧ Below w.heap.size w w'
set_option maxHeartbeats 1000000 in
set_option maxRecDepth 100000 in
theorem dDrawQueueWake_any (hc : Code w A n) (hcap : n ≤ c) (hcap2 : c ≤ maxLen) : Calls Try.prog 43 #[.slice A n c] w (DDrawQueueWake w) := by
  have HA0 := Lib.hid (show Below w.heap.size w (w.alloc (.cells #[.slice none 0 0, .int .i64 0] 25)) from (Below.refl _ _).alloc (Nat.le_refl _) _)
  have Z_0 := Lib.hid (Box.new w #[.slice none 0 0, .int .i64 0] 25)
  go_enter Try.func43, Try.ntmps43
  go_wp2_with fail
  refine (open_any (hc.below HA0.out) hcap hcap2).mono ?_
  rintro e w1 ⟨A', n', c', rfl, hr, hb1⟩
  have hg := hr.box.lt
  have HB1 := Lib.hid (HA0.out.trans (hb1.mono HA0.out.size))
  have Z_1 := Lib.hid (Z_0.out.below hb1 Z_0.out.lt)
  simp only [World.size_alloc] at hr hg
  have HR1 := Lib.hid hr
  clear hb1 hr
  go_wp2_with fail
  refine (queue_any HR1.out (by omega)).mono ?_
  rintro e w2 ⟨A9, n9, c9, D, fp, q2, rfl, hm, hf, hl6, hcq, hrd, hq2, ht⟩
  have hz2 := hrd.p0
  have HM_2 := Lib.hid hm
  have HF := Lib.hid hf
  have HL6 := Lib.hid hl6
  have HCQ := Lib.hid hcq
  have HR2 := Lib.hid hrd
  have HT2 := Lib.hid ht
  have hs2 := ht.size
  have Z_2 := Lib.hid (ht.box Z_1.out (fun a e => by injection e with e; subst e; show w.heap.size ≠ w.heap.size + 1; omega))
  clear hm hf hl6 hcq hrd ht
  go_wp2_with fail
  refine (pick2_any 8 (by omega) (by omega) HR2.out (by omega)).mono ?_
  rintro e w3 ⟨x3, rfl, lo3, up3, hrd, ht⟩
  have HR3 := Lib.hid hrd
  have HT3 := Lib.hid (HT2.out.trans ht)
  have hs3 := ht.size
  have Z_3 := Lib.hid (ht.box Z_2.out (fun a e => by injection e with e; subst e; show w.heap.size ≠ w.heap.size + 1; omega))
  have HM_3 := Lib.hid (tyQueue.mframe HM_2.out fun b hb => ht.block b (by have h := HF.out b hb; omega) fun _ a e => by injection e with e; subst e; have h := HF.out b hb; show b ≠ w.heap.size + 1; omega)
  clear hrd ht
  have z0 := Z_3.out.cell 0
  have z1 := Z_3.out.cell 1
  have e0 := Z_3.out.frz 0
  have e1 := Z_3.out.frz 1
  have zl := Z_3.out.lt
  simp at z0 z1
  go_wp2_with fail
  exact bodyPost_ret (v := .tuple #[.agg #[.slice A9 n9 c9, .int .i64 D.2], .int .i64 (x3)]) (by simp [results, Try.results43, go_sem, z0, z1]) rfl ⟨A9, n9, c9, D, fp, x3, rfl, lo3, up3, (tyQueue.mframe (tyQueue.mframe HM_3.out fun b hb => heap_setCell_other _ ⟨w.heap.size, 0, none⟩ b _ (by have h := HF.out b hb; show b ≠ w.heap.size; omega)) fun b hb => heap_setCell_other _ ⟨w.heap.size, 1, none⟩ b _ (by have h := HF.out b hb; show b ≠ w.heap.size; omega)), (fun b hb => by have h := HF.out b hb; simp only [World.size_setCell]; omega), HL6.out, HCQ.out, (((HB1.out.trans (HT3.out.low (lo := w.heap.size) (by omega) (by omega))).setCell (p := ⟨w.heap.size, 0, none⟩) (by show w.heap.size ≤ w.heap.size; omega) _).setCell (p := ⟨w.heap.size, 1, none⟩) (by show w.heap.size ≤ w.heap.size; omega) _)⟩

def DDrawQueueRun (w : World) (e : Ending) (w' : World) : Prop := ∃ (A9 : Option Addr) (n9 c9 : Nat) (D : Qu) (fp : List Nat) (x0 : Int), e = .returned (.tuple #[.agg #[.slice A9 n9 c9, .int .i64 D.2], .int .i64 x0]) ∧ -1 ≤ x0 ∧ x0 < 60 ∧ tyQueue.M w' fp [.slice A9 n9 c9, .int .i64 D.2] D ∧ (∀ b ∈ fp, w.heap.size ≤ b ∧ b < w'.heap.size) ∧ D.1.length ≤ 6 ∧ n9 ≤ c9 ∧ Below w.heap.size w w'
set_option maxHeartbeats 1000000 in
set_option maxRecDepth 100000 in
theorem dDrawQueueRun_any (hc : Code w A n) (hcap : n ≤ c) (hcap2 : c ≤ maxLen) : Calls Try.prog 46 #[.slice A n c] w (DDrawQueueRun w) := by
  have HA0 := Lib.hid (show Below w.heap.size w (w.alloc (.cells #[.slice none 0 0, .int .i64 0] 25)) from (Below.refl _ _).alloc (Nat.le_refl _) _)
  have Z_0 := Lib.hid (Box.new w #[.slice none 0 0, .int .i64 0] 25)
  go_enter Try.func46, Try.ntmps46
  go_wp2_with fail
  refine (open_any (hc.below HA0.out) hcap hcap2).mono ?_
  rintro e w1 ⟨A', n', c', rfl, hr, hb1⟩
  have hg := hr.box.lt
  have HB1 := Lib.hid (HA0.out.trans (hb1.mono HA0.out.size))
  have Z_1 := Lib.hid (Z_0.out.below hb1 Z_0.out.lt)
  simp only [World.size_alloc] at hr hg
  have HR1 := Lib.hid hr
  clear hb1 hr
  go_wp2_with fail
  refine (queue_any HR1.out (by omega)).mono ?_
  rintro e w2 ⟨A9, n9, c9, D, fp, q2, rfl, hm, hf, hl6, hcq, hrd, hq2, ht⟩
  have hz2 := hrd.p0
  have HM_2 := Lib.hid hm
  have HF := Lib.hid hf
  have HL6 := Lib.hid hl6
  have HCQ := Lib.hid hcq
  have HR2 := Lib.hid hrd
  have HT2 := Lib.hid ht
  have hs2 := ht.size
  have Z_2 := Lib.hid (ht.box Z_1.out (fun a e => by injection e with e; subst e; show w.heap.size ≠ w.heap.size + 1; omega))
  clear hm hf hl6 hcq hrd ht
  go_wp2_with fail
  refine (pick2_any 60 (by omega) (by omega) HR2.out (by omega)).mono ?_
  rintro e w3 ⟨x3, rfl, lo3, up3, hrd, ht⟩
  have HR3 := Lib.hid hrd
  have HT3 := Lib.hid (HT2.out.trans ht)
  have hs3 := ht.size
  have Z_3 := Lib.hid (ht.box Z_2.out (fun a e => by injection e with e; subst e; show w.heap.size ≠ w.heap.size + 1; omega))
  have HM_3 := Lib.hid (tyQueue.mframe HM_2.out fun b hb => ht.block b (by have h := HF.out b hb; omega) fun _ a e => by injection e with e; subst e; have h := HF.out b hb; show b ≠ w.heap.size + 1; omega)
  clear hrd ht
  go_wp2_with fail
  refine (pick2_any 30 (by omega) (by omega) HR3.out (by omega)).mono ?_
  rintro e w4 ⟨x4, rfl, lo4, up4, hrd, ht⟩
  have HR4 := Lib.hid hrd
  have HT4 := Lib.hid (HT3.out.trans ht)
  have hs4 := ht.size
  have Z_4 := Lib.hid (ht.box Z_3.out (fun a e => by injection e with e; subst e; show w.heap.size ≠ w.heap.size + 1; omega))
  have HM_4 := Lib.hid (tyQueue.mframe HM_3.out fun b hb => ht.block b (by have h := HF.out b hb; omega) fun _ a e => by injection e with e; subst e; have h := HF.out b hb; show b ≠ w.heap.size + 1; omega)
  clear hrd ht
  have hdv : 0 ≤ x4 / 29 ∧ x4 / 29 ≤ 1 := by omega
  have z0 := Z_4.out.cell 0
  have z1 := Z_4.out.cell 1
  have e0 := Z_4.out.frz 0
  have e1 := Z_4.out.frz 1
  have zl := Z_4.out.lt
  simp at z0 z1
  go_wp2_with fail
  exact bodyPost_ret (v := .tuple #[.agg #[.slice A9 n9 c9, .int .i64 D.2], .int .i64 (x3 - x4 / 29)]) (by simp [results, Try.results46, go_sem, z0, z1]) rfl ⟨A9, n9, c9, D, fp, x3 - x4 / 29, rfl, by omega, by omega, (tyQueue.mframe (tyQueue.mframe HM_4.out fun b hb => heap_setCell_other _ ⟨w.heap.size, 0, none⟩ b _ (by have h := HF.out b hb; show b ≠ w.heap.size; omega)) fun b hb => heap_setCell_other _ ⟨w.heap.size, 1, none⟩ b _ (by have h := HF.out b hb; show b ≠ w.heap.size; omega)), (fun b hb => by have h := HF.out b hb; simp only [World.size_setCell]; omega), HL6.out, HCQ.out, (((HB1.out.trans (HT4.out.low (lo := w.heap.size) (by omega) (by omega))).setCell (p := ⟨w.heap.size, 0, none⟩) (by show w.heap.size ≤ w.heap.size; omega) _).setCell (p := ⟨w.heap.size, 1, none⟩) (by show w.heap.size ≤ w.heap.size; omega) _)⟩

end
end Go.Proofs.Ytagggajlpmdpdaa
