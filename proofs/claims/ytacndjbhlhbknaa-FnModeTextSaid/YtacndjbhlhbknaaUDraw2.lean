/-
  The draws of modes, and of what the functions of chapter 5 are asked.
-/
import Derived.Test.YtacndjbhlhbknaaUDraw
namespace Go.Proofs.Ytacndjbhlhbknaa
open Go.RowKit

/-- a mode was drawn -/
def ModeDrawn (w : World) (g : Nat) (A : Option Addr) (n c : Nat) (p : Int) (e : Ending) (w' : World) : Prop :=
  ∃ (m q : Int), e = .returned (.int .i64 m) ∧ -1 ≤ m ∧ m ≤ 512 ∧ Rd w' g A n c q ∧ q ≤ p + 6 ∧ Touch w w' (some ⟨g, 0, none⟩) 1
theorem seven_at {w w' : World} {W g : Nat} {x a b : Int} {t : TypeId} (h : Box w W #[.int .i64 493, .int .i64 420, .int .i64 448, .int .i64 511, .int .i64 0, .int .i64 a, .int .i64 b] t) (ht : Touch w w' (some ⟨g, 0, none⟩) 1) (hne : g ≠ W) (x0 : 0 ≤ x) (x1 : x < 7)
    (ha : 0 ≤ a ∧ a ≤ 511) (hb : 0 ≤ b ∧ b ≤ 511) : ∃ r : Int, w'.cell? ⟨W, x.toNat, none⟩ = some (.int .i64 r) ∧ -1 ≤ r ∧ r ≤ 512 := by
  have hb' : Box w' W _ t := (ht.box h fun a e => by injection e with e; subst e; exact fun e => hne e.symm)
  rw [hb'.cell]
  obtain h | h | h | h | h | h | h : x = 0 ∨ x = 1 ∨ x = 2 ∨ x = 3 ∨ x = 4 ∨ x = 5 ∨ x = 6 := by omega
  all_goals subst h; exact ⟨_, rfl, by omega, by omega⟩
theorem three_at' {w w' : World} {W g : Nat} {x : Int} {t : TypeId} (h : Box w W #[.int .i64 (-1), .int .i64 512, .int .i64 511] t) (ht : Touch w w' (some ⟨g, 0, none⟩) 1) (hne : g ≠ W) (x0 : 0 ≤ x) (x1 : x < 3) :
    ∃ r : Int, w'.cell? ⟨W, x.toNat, none⟩ = some (.int .i64 r) ∧ -1 ≤ r ∧ r ≤ 512 := by
  have hb : Box w' W _ t := (ht.box h fun a e => by injection e with e; subst e; exact fun e => hne e.symm)
  rw [hb.cell]
  obtain h | h | h : x = 0 ∨ x = 1 ∨ x = 2 := by omega
  all_goals subst h; exact ⟨_, rfl, by omega, by omega⟩

section
variable {A : Option Addr} {n c : Nat} {w : World} {g : Nat} {p : Int}
theorem mode_any (hr : Rd w g A n c p) (hp : p ≤ 10000) : Calls Try.prog 54 #[.pointer (some ⟨g, 0, none⟩)] w (ModeDrawn w g A n c p) := by
  have HR := Lib.hid hr
  have hp0 := hr.p0
  have hg := hr.box.lt
  clear hr
  go_enter Try.func54, Try.ntmps54
  go_wp2_with fail
  refine (pick2_any 20 (by omega) (by omega) HR.out (by omega)).mono ?_
  rintro e w1 ⟨t, rfl, t0, t1, hrd1, ht1⟩
  have HR1 := Lib.hid hrd1
  have HT1 := Lib.hid ht1
  have hs1 := ht1.size
  clear hrd1 ht1
  by_cases c0 : t = 0
  · subst c0
    clear t0 t1
    have HAB := Lib.hid (show Below w1.heap.size w1 (w1.alloc (.cells #[.int .i64 (-1), .int .i64 512, .int .i64 511] 3)) from (Below.refl _ _).alloc (Nat.le_refl _) _)
    have LB := Lib.hid (Box.new w1 #[.int .i64 (-1), .int .i64 512, .int .i64 511] 3)
    have HRB := Lib.hid (HR1.out.below HAB.out)
    go_wp2_with fail
    refine (pick2_any 3 (by omega) (by omega) HRB.out (by omega)).mono ?_
    rintro e w2 ⟨s, rfl, s0, s1, hrd2, ht2⟩
    obtain ⟨r, r1, r2, r3⟩ := three_at' LB.out ht2 (by omega) s0 s1
    have HR2 := Lib.hid hrd2
    have HT2 := Lib.hid ((HT1.out.then_ HAB.out).trans ht2)
    clear hrd2 ht2
    go_wp2_with fail
    go_ret
    exact ⟨r, p + 1 + 1, rfl, r2, r3, HR2.out, by omega, HT2.out⟩
  · have c0' : (t == 0) = false := by rw [beq_eq_false_iff_ne]; exact c0
    clear c0
    go_wp2_with fail
    refine (pick2_any 8 (by omega) (by omega) HR1.out (by omega)).mono ?_
    rintro e w2 ⟨x, rfl, x0, x1, hrd2, ht2⟩
    go_wp2_with fail
    refine (pick2_any 64 (by omega) (by omega) hrd2 (by omega)).mono ?_
    rintro e w3 ⟨y, rfl, y0, y1, hrd3, ht3⟩
    go_wp2_with fail
    refine (pick2_any 8 (by omega) (by omega) hrd3 (by omega)).mono ?_
    rintro e w4 ⟨z, rfl, z0, z1, hrd4, ht4⟩
    have HR4 := Lib.hid hrd4
    have HT4 := Lib.hid (((HT1.out.trans ht2).trans ht3).trans ht4)
    have hs4 := HT4.out.size
    clear hrd2 ht2 hrd3 ht3 hrd4 ht4
    have HAB := Lib.hid (show Below w4.heap.size w4 (w4.alloc (.cells #[.int .i64 493, .int .i64 420, .int .i64 448, .int .i64 511, .int .i64 0, .int .i64 (x * 64 + y), .int .i64 (z * 73)] 3)) from (Below.refl _ _).alloc (Nat.le_refl _) _)
    have LB := Lib.hid (Box.new w4 #[.int .i64 493, .int .i64 420, .int .i64 448, .int .i64 511, .int .i64 0, .int .i64 (x * 64 + y), .int .i64 (z * 73)] 3)
    have HRB := Lib.hid (HR4.out.below HAB.out)
    go_wp2_with fail
    refine (pick2_any 7 (by omega) (by omega) HRB.out (by omega)).mono ?_
    rintro e w5 ⟨s, rfl, s0, s1, hrd5, ht5⟩
    obtain ⟨r, r1, r2, r3⟩ := seven_at LB.out ht5 (by omega) s0 s1 (by omega) (by omega)
    have HR5 := Lib.hid hrd5
    have HT5 := Lib.hid ((HT4.out.then_ HAB.out).trans ht5)
    clear hrd5 ht5
    go_wp2_with fail
    go_ret
    exact ⟨r, _, rfl, r2, r3, HR5.out, by omega, HT5.out⟩
end

section
variable {A : Option Addr} {n c : Nat} {w : World}
set_option maxHeartbeats 1000000 in
set_option maxRecDepth 100000 in
theorem dDrawCredOk_any (hc : Code w A n) (hcap : n ≤ c) (hcap2 : c ≤ maxLen) : Calls Try.prog 19 #[.slice A n c] w fun e w' => ∃ (y00 y01 y02 : Value) (D0 : Cr), e = .returned (.agg #[y00, y01, y02]) ∧ tyCred.R w' w'.heap.size [y00, y01, y02] D0 ∧ smallCred D0 ∧ Below w.heap.size w w' := by
  have HA0 := Lib.hid (show Below w.heap.size w (w.alloc (.cells #[.int .i64 0, .int .i64 0, .slice none 0 0] 25)) from ((Below.refl _ _).alloc (Nat.le_refl _) _))
  have Z0_0 := Lib.hid (Box.new w #[.int .i64 0, .int .i64 0, .slice none 0 0] 25)
  go_enter Try.func19, Try.ntmps19
  go_wp2_with fail
  refine (open_any (hc.below HA0.out) hcap hcap2).mono ?_
  rintro e w1 ⟨A', n', c', rfl, hr, hb1⟩
  have hg := hr.box.lt
  have HB1 := Lib.hid (HA0.out.trans (hb1.mono HA0.out.size))
  have Z0_1 := Lib.hid (Z0_0.out.below hb1 Z0_0.out.lt)
  simp only [World.size_alloc] at hr hg
  have HT1 := Lib.hid (Touch.refl w1 (some ⟨w.heap.size + 1, 0, none⟩) 1)
  have HR1 := Lib.hid hr
  have hq1 : (0 : Int) ≤ 0 := by omega
  clear hb1 hr
  go_wp2_with fail
  refine (cred_any HR1.out (by omega)).mono ?_
  rintro e w2 ⟨a0, b0, d0, D0, fp0, q2, rfl, hm0, hf0, hsm0, hrd, hq2, ht⟩
  have hz2 := hrd.p0
  have HM0_2 := Lib.hid hm0
  have HF0 := Lib.hid hf0
  have HSM0 := Lib.hid hsm0
  clear hm0 hf0 hsm0
  have HR2 := Lib.hid hrd
  have HT2 := Lib.hid (HT1.out.trans ht)
  have hs2 := ht.size
  have Z0_2 := Lib.hid (ht.box Z0_1.out (fun a e => by injection e with e; subst e; show w.heap.size ≠ w.heap.size + 1; omega))
  clear hrd ht
  obtain ⟨A0, n0, c0, hcs⟩ := tyCred_shM HM0_2.out
  simp only [List.cons.injEq, and_true] at hcs
  obtain ⟨rfl, rfl, rfl⟩ := hcs
  have z00 := Z0_2.out.cell 0
  have e00 := Z0_2.out.frz 0
  have z01 := Z0_2.out.cell 1
  have e01 := Z0_2.out.frz 1
  have z02 := Z0_2.out.cell 2
  have e02 := Z0_2.out.frz 2
  have zl0 := Z0_2.out.lt
  simp at z00 z01 z02
  go_wp2_with fail
  refine bodyPost_ret (v := .agg #[.int .i64 D0.1, .int .i64 D0.2.1, .slice A0 n0 c0]) (by simp [results, Try.results19, go_sem, z00, z01, z02]) rfl ⟨.int .i64 D0.1, .int .i64 D0.2.1, .slice A0 n0 c0, D0, rfl, tyCred.mr (tyCred.mframe (tyCred.mframe (tyCred.mframe HM0_2.out fun b hb => heap_setCell_other _ ⟨w.heap.size, 0, none⟩ b _ (by have h := HF0.out b hb; show b ≠ w.heap.size; omega)) fun b hb => heap_setCell_other _ ⟨w.heap.size, 1, none⟩ b _ (by have h := HF0.out b hb; show b ≠ w.heap.size; omega)) fun b hb => heap_setCell_other _ ⟨w.heap.size, 2, none⟩ b _ (by have h := HF0.out b hb; show b ≠ w.heap.size; omega)) fun b hb => by have h := HF0.out b hb; simp only [World.size_setCell]; omega, HSM0.out, ((((HB1.out.trans (HT2.out.low (lo := w.heap.size) (by omega) (by omega))).setCell (p := ⟨w.heap.size, 0, none⟩) (by show w.heap.size ≤ w.heap.size; omega) _).setCell (p := ⟨w.heap.size, 1, none⟩) (by show w.heap.size ≤ w.heap.size; omega) _).setCell (p := ⟨w.heap.size, 2, none⟩) (by show w.heap.size ≤ w.heap.size; omega) _)⟩

set_option maxHeartbeats 1000000 in
set_option maxRecDepth 100000 in
theorem dDrawCredRun_any (hc : Code w A n) (hcap : n ≤ c) (hcap2 : c ≤ maxLen) : Calls Try.prog 36 #[.slice A n c] w fun e w' => ∃ (y00 y01 y02 : Value) (D0 : Cr) (x0 : Int), e = .returned (.tuple #[.agg #[y00, y01, y02], .int .i64 x0]) ∧ 0 ≤ x0 ∧ x0 < 6 ∧ tyCred.R w' w'.heap.size [y00, y01, y02] D0 ∧ smallCred D0 ∧ Below w.heap.size w w' := by
  have HA0 := Lib.hid (show Below w.heap.size w (w.alloc (.cells #[.int .i64 0, .int .i64 0, .slice none 0 0] 25)) from ((Below.refl _ _).alloc (Nat.le_refl _) _))
  have Z0_0 := Lib.hid (Box.new w #[.int .i64 0, .int .i64 0, .slice none 0 0] 25)
  go_enter Try.func36, Try.ntmps36
  go_wp2_with fail
  refine (open_any (hc.below HA0.out) hcap hcap2).mono ?_
  rintro e w1 ⟨A', n', c', rfl, hr, hb1⟩
  have hg := hr.box.lt
  have HB1 := Lib.hid (HA0.out.trans (hb1.mono HA0.out.size))
  have Z0_1 := Lib.hid (Z0_0.out.below hb1 Z0_0.out.lt)
  simp only [World.size_alloc] at hr hg
  have HT1 := Lib.hid (Touch.refl w1 (some ⟨w.heap.size + 1, 0, none⟩) 1)
  have HR1 := Lib.hid hr
  have hq1 : (0 : Int) ≤ 0 := by omega
  clear hb1 hr
  go_wp2_with fail
  refine (cred_any HR1.out (by omega)).mono ?_
  rintro e w2 ⟨a0, b0, d0, D0, fp0, q2, rfl, hm0, hf0, hsm0, hrd, hq2, ht⟩
  have hz2 := hrd.p0
  have HM0_2 := Lib.hid hm0
  have HF0 := Lib.hid hf0
  have HSM0 := Lib.hid hsm0
  clear hm0 hf0 hsm0
  have HR2 := Lib.hid hrd
  have HT2 := Lib.hid (HT1.out.trans ht)
  have hs2 := ht.size
  have Z0_2 := Lib.hid (ht.box Z0_1.out (fun a e => by injection e with e; subst e; show w.heap.size ≠ w.heap.size + 1; omega))
  clear hrd ht
  go_wp2_with fail
  refine (pick2_any 6 (by omega) (by omega) HR2.out (by omega)).mono ?_
  rintro e w3 ⟨x3, rfl, lo3, up3, hrd, ht⟩
  have HR3 := Lib.hid hrd
  have HT3 := Lib.hid (HT2.out.trans ht)
  have hs3 := ht.size
  have Z0_3 := Lib.hid (ht.box Z0_2.out (fun a e => by injection e with e; subst e; show w.heap.size ≠ w.heap.size + 1; omega))
  have HM0_3 := Lib.hid (tyCred.mframe HM0_2.out fun b hb => ht.block b (by have h := HF0.out b hb; omega) fun _ a e => by injection e with e; subst e; have h := HF0.out b hb; show b ≠ w.heap.size + 1; omega)
  clear hrd ht
  obtain ⟨A0, n0, c0, hcs⟩ := tyCred_shM HM0_3.out
  simp only [List.cons.injEq, and_true] at hcs
  obtain ⟨rfl, rfl, rfl⟩ := hcs
  have z00 := Z0_3.out.cell 0
  have e00 := Z0_3.out.frz 0
  have z01 := Z0_3.out.cell 1
  have e01 := Z0_3.out.frz 1
  have z02 := Z0_3.out.cell 2
  have e02 := Z0_3.out.frz 2
  have zl0 := Z0_3.out.lt
  simp at z00 z01 z02
  go_wp2_with fail
  refine bodyPost_ret (v := .tuple #[.agg #[.int .i64 D0.1, .int .i64 D0.2.1, .slice A0 n0 c0], .int .i64 (x3)]) (by simp [results, Try.results36, go_sem, z00, z01, z02]) rfl ⟨.int .i64 D0.1, .int .i64 D0.2.1, .slice A0 n0 c0, D0, x3, rfl, lo3, up3, tyCred.mr (tyCred.mframe (tyCred.mframe (tyCred.mframe HM0_3.out fun b hb => heap_setCell_other _ ⟨w.heap.size, 0, none⟩ b _ (by have h := HF0.out b hb; show b ≠ w.heap.size; omega)) fun b hb => heap_setCell_other _ ⟨w.heap.size, 1, none⟩ b _ (by have h := HF0.out b hb; show b ≠ w.heap.size; omega)) fun b hb => heap_setCell_other _ ⟨w.heap.size, 2, none⟩ b _ (by have h := HF0.out b hb; show b ≠ w.heap.size; omega)) fun b hb => by have h := HF0.out b hb; simp only [World.size_setCell]; omega, HSM0.out, ((((HB1.out.trans (HT3.out.low (lo := w.heap.size) (by omega) (by omega))).setCell (p := ⟨w.heap.size, 0, none⟩) (by show w.heap.size ≤ w.heap.size; omega) _).setCell (p := ⟨w.heap.size, 1, none⟩) (by show w.heap.size ≤ w.heap.size; omega) _).setCell (p := ⟨w.heap.size, 2, none⟩) (by show w.heap.size ≤ w.heap.size; omega) _)⟩

set_option maxHeartbeats 1000000 in
set_option maxRecDepth 100000 in
theorem dDrawCredBecome_any (hc : Code w A n) (hcap : n ≤ c) (hcap2 : c ≤ maxLen) : Calls Try.prog 32 #[.slice A n c] w fun e w' => ∃ (y00 y01 y02 : Value) (D0 : Cr) (x0 : Int), e = .returned (.tuple #[.agg #[y00, y01, y02], .int .i64 x0]) ∧ -1 ≤ x0 ∧ x0 < 6 ∧ tyCred.R w' w'.heap.size [y00, y01, y02] D0 ∧ smallCred D0 ∧ Below w.heap.size w w' := by
  have HA0 := Lib.hid (show Below w.heap.size w (w.alloc (.cells #[.int .i64 0, .int .i64 0, .slice none 0 0] 25)) from ((Below.refl _ _).alloc (Nat.le_refl _) _))
  have Z0_0 := Lib.hid (Box.new w #[.int .i64 0, .int .i64 0, .slice none 0 0] 25)
  go_enter Try.func32, Try.ntmps32
  go_wp2_with fail
  refine (open_any (hc.below HA0.out) hcap hcap2).mono ?_
  rintro e w1 ⟨A', n', c', rfl, hr, hb1⟩
  have hg := hr.box.lt
  have HB1 := Lib.hid (HA0.out.trans (hb1.mono HA0.out.size))
  have Z0_1 := Lib.hid (Z0_0.out.below hb1 Z0_0.out.lt)
  simp only [World.size_alloc] at hr hg
  have HT1 := Lib.hid (Touch.refl w1 (some ⟨w.heap.size + 1, 0, none⟩) 1)
  have HR1 := Lib.hid hr
  have hq1 : (0 : Int) ≤ 0 := by omega
  clear hb1 hr
  go_wp2_with fail
  refine (cred_any HR1.out (by omega)).mono ?_
  rintro e w2 ⟨a0, b0, d0, D0, fp0, q2, rfl, hm0, hf0, hsm0, hrd, hq2, ht⟩
  have hz2 := hrd.p0
  have HM0_2 := Lib.hid hm0
  have HF0 := Lib.hid hf0
  have HSM0 := Lib.hid hsm0
  clear hm0 hf0 hsm0
  have HR2 := Lib.hid hrd
  have HT2 := Lib.hid (HT1.out.trans ht)
  have hs2 := ht.size
  have Z0_2 := Lib.hid (ht.box Z0_1.out (fun a e => by injection e with e; subst e; show w.heap.size ≠ w.heap.size + 1; omega))
  clear hrd ht
  go_wp2_with fail
  refine (pick2_any 6 (by omega) (by omega) HR2.out (by omega)).mono ?_
  rintro e w3 ⟨x3, rfl, lo3, up3, hrd, ht⟩
  have HR3 := Lib.hid hrd
  have HT3 := Lib.hid (HT2.out.trans ht)
  have hs3 := ht.size
  have Z0_3 := Lib.hid (ht.box Z0_2.out (fun a e => by injection e with e; subst e; show w.heap.size ≠ w.heap.size + 1; omega))
  have HM0_3 := Lib.hid (tyCred.mframe HM0_2.out fun b hb => ht.block b (by have h := HF0.out b hb; omega) fun _ a e => by injection e with e; subst e; have h := HF0.out b hb; show b ≠ w.heap.size + 1; omega)
  clear hrd ht
  go_wp2_with fail
  refine (pick2_any 9 (by omega) (by omega) HR3.out (by omega)).mono ?_
  rintro e w4 ⟨x4, rfl, lo4, up4, hrd, ht⟩
  have HR4 := Lib.hid hrd
  have HT4 := Lib.hid (HT3.out.trans ht)
  have hs4 := ht.size
  have Z0_4 := Lib.hid (ht.box Z0_3.out (fun a e => by injection e with e; subst e; show w.heap.size ≠ w.heap.size + 1; omega))
  have HM0_4 := Lib.hid (tyCred.mframe HM0_3.out fun b hb => ht.block b (by have h := HF0.out b hb; omega) fun _ a e => by injection e with e; subst e; have h := HF0.out b hb; show b ≠ w.heap.size + 1; omega)
  clear hrd ht
  obtain ⟨A0, n0, c0, hcs⟩ := tyCred_shM HM0_4.out
  simp only [List.cons.injEq, and_true] at hcs
  obtain ⟨rfl, rfl, rfl⟩ := hcs
  have z00 := Z0_4.out.cell 0
  have e00 := Z0_4.out.frz 0
  have z01 := Z0_4.out.cell 1
  have e01 := Z0_4.out.frz 1
  have z02 := Z0_4.out.cell 2
  have e02 := Z0_4.out.frz 2
  have zl0 := Z0_4.out.lt
  simp at z00 z01 z02
  go_wp2_with fail
  refine bodyPost_ret (v := .tuple #[.agg #[.int .i64 D0.1, .int .i64 D0.2.1, .slice A0 n0 c0], .int .i64 (x3 - x4 / 8)]) (by simp [results, Try.results32, go_sem, z00, z01, z02]) rfl ⟨.int .i64 D0.1, .int .i64 D0.2.1, .slice A0 n0 c0, D0, x3 - x4 / 8, rfl, by omega, by omega, tyCred.mr (tyCred.mframe (tyCred.mframe (tyCred.mframe HM0_4.out fun b hb => heap_setCell_other _ ⟨w.heap.size, 0, none⟩ b _ (by have h := HF0.out b hb; show b ≠ w.heap.size; omega)) fun b hb => heap_setCell_other _ ⟨w.heap.size, 1, none⟩ b _ (by have h := HF0.out b hb; show b ≠ w.heap.size; omega)) fun b hb => heap_setCell_other _ ⟨w.heap.size, 2, none⟩ b _ (by have h := HF0.out b hb; show b ≠ w.heap.size; omega)) fun b hb => by have h := HF0.out b hb; simp only [World.size_setCell]; omega, HSM0.out, ((((HB1.out.trans (HT4.out.low (lo := w.heap.size) (by omega) (by omega))).setCell (p := ⟨w.heap.size, 0, none⟩) (by show w.heap.size ≤ w.heap.size; omega) _).setCell (p := ⟨w.heap.size, 1, none⟩) (by show w.heap.size ≤ w.heap.size; omega) _).setCell (p := ⟨w.heap.size, 2, none⟩) (by show w.heap.size ≤ w.heap.size; omega) _)⟩

set_option maxHeartbeats 1000000 in
set_option maxRecDepth 100000 in
theorem dDrawCredSignal_any (hc : Code w A n) (hcap : n ≤ c) (hcap2 : c ≤ maxLen) : Calls Try.prog 39 #[.slice A n c] w fun e w' => ∃ (y00 y01 y02 : Value) (D0 : Cr) (y10 y11 y12 : Value) (D1 : Cr), e = .returned (.tuple #[.agg #[y00, y01, y02], .agg #[y10, y11, y12]]) ∧ tyCred.R w' w'.heap.size [y00, y01, y02] D0 ∧ tyCred.R w' w'.heap.size [y10, y11, y12] D1 ∧ smallCred D0 ∧ smallCred D1 ∧ Below w.heap.size w w' := by
  have HA0 := Lib.hid (show Below w.heap.size w ((w.alloc (.cells #[.int .i64 0, .int .i64 0, .slice none 0 0] 25)).alloc (.cells #[.int .i64 0, .int .i64 0, .slice none 0 0] 25)) from (((Below.refl _ _).alloc (Nat.le_refl _) _).alloc (by simp only [World.size_alloc]; omega) _))
  have Z0_0 := Lib.hid ((Box.new w #[.int .i64 0, .int .i64 0, .slice none 0 0] 25).alloc (.cells #[.int .i64 0, .int .i64 0, .slice none 0 0] 25))
  have Z1_0 := Lib.hid (Box.new (w.alloc (.cells #[.int .i64 0, .int .i64 0, .slice none 0 0] 25)) #[.int .i64 0, .int .i64 0, .slice none 0 0] 25)
  simp only [World.size_alloc] at Z1_0
  go_enter Try.func39, Try.ntmps39
  go_wp2_with fail
  refine (open_any (hc.below HA0.out) hcap hcap2).mono ?_
  rintro e w1 ⟨A', n', c', rfl, hr, hb1⟩
  have hg := hr.box.lt
  have HB1 := Lib.hid (HA0.out.trans (hb1.mono HA0.out.size))
  have Z0_1 := Lib.hid (Z0_0.out.below hb1 Z0_0.out.lt)
  have Z1_1 := Lib.hid (Z1_0.out.below hb1 Z1_0.out.lt)
  simp only [World.size_alloc] at hr hg
  have HT1 := Lib.hid (Touch.refl w1 (some ⟨w.heap.size + 1 + 1, 0, none⟩) 1)
  have HR1 := Lib.hid hr
  have hq1 : (0 : Int) ≤ 0 := by omega
  clear hb1 hr
  go_wp2_with fail
  refine (cred_any HR1.out (by omega)).mono ?_
  rintro e w2 ⟨a0, b0, d0, D0, fp0, q2, rfl, hm0, hf0, hsm0, hrd, hq2, ht⟩
  have hz2 := hrd.p0
  have HM0_2 := Lib.hid hm0
  have HF0 := Lib.hid hf0
  have HSM0 := Lib.hid hsm0
  clear hm0 hf0 hsm0
  have HR2 := Lib.hid hrd
  have HT2 := Lib.hid (HT1.out.trans ht)
  have hs2 := ht.size
  have Z0_2 := Lib.hid (ht.box Z0_1.out (fun a e => by injection e with e; subst e; show w.heap.size ≠ w.heap.size + 1 + 1; omega))
  have Z1_2 := Lib.hid (ht.box Z1_1.out (fun a e => by injection e with e; subst e; show w.heap.size + 1 ≠ w.heap.size + 1 + 1; omega))
  clear hrd ht
  go_wp2_with fail
  refine (cred_any HR2.out (by omega)).mono ?_
  rintro e w3 ⟨a1, b1, d1, D1, fp1, q3, rfl, hm1, hf1, hsm1, hrd, hq3, ht⟩
  have hz3 := hrd.p0
  have HM1_3 := Lib.hid hm1
  have HF1 := Lib.hid hf1
  have HSM1 := Lib.hid hsm1
  clear hm1 hf1 hsm1
  have HR3 := Lib.hid hrd
  have HT3 := Lib.hid (HT2.out.trans ht)
  have hs3 := ht.size
  have Z0_3 := Lib.hid (ht.box Z0_2.out (fun a e => by injection e with e; subst e; show w.heap.size ≠ w.heap.size + 1 + 1; omega))
  have Z1_3 := Lib.hid (ht.box Z1_2.out (fun a e => by injection e with e; subst e; show w.heap.size + 1 ≠ w.heap.size + 1 + 1; omega))
  have HM0_3 := Lib.hid (tyCred.mframe HM0_2.out fun b hb => ht.block b (by have h := HF0.out b hb; omega) fun _ a e => by injection e with e; subst e; have h := HF0.out b hb; show b ≠ w.heap.size + 1 + 1; omega)
  clear hrd ht
  obtain ⟨A0, n0, c0, hcs⟩ := tyCred_shM HM0_3.out
  simp only [List.cons.injEq, and_true] at hcs
  obtain ⟨rfl, rfl, rfl⟩ := hcs
  obtain ⟨A1, n1, c1, hcs⟩ := tyCred_shM HM1_3.out
  simp only [List.cons.injEq, and_true] at hcs
  obtain ⟨rfl, rfl, rfl⟩ := hcs
  have z00 := Z0_3.out.cell 0
  have e00 := Z0_3.out.frz 0
  have z01 := Z0_3.out.cell 1
  have e01 := Z0_3.out.frz 1
  have z02 := Z0_3.out.cell 2
  have e02 := Z0_3.out.frz 2
  have zl0 := Z0_3.out.lt
  simp at z00 z01 z02
  have z10 := Z1_3.out.cell 0
  have e10 := Z1_3.out.frz 0
  have z11 := Z1_3.out.cell 1
  have e11 := Z1_3.out.frz 1
  have z12 := Z1_3.out.cell 2
  have e12 := Z1_3.out.frz 2
  have zl1 := Z1_3.out.lt
  simp at z10 z11 z12
  go_wp2_with fail
  refine bodyPost_ret (v := .tuple #[.agg #[.int .i64 D0.1, .int .i64 D0.2.1, .slice A0 n0 c0], .agg #[.int .i64 D1.1, .int .i64 D1.2.1, .slice A1 n1 c1]]) (by simp [results, Try.results39, go_sem, z00, z01, z02, z10, z11, z12]) rfl ⟨.int .i64 D0.1, .int .i64 D0.2.1, .slice A0 n0 c0, D0, .int .i64 D1.1, .int .i64 D1.2.1, .slice A1 n1 c1, D1, rfl, tyCred.mr (tyCred.mframe (tyCred.mframe (tyCred.mframe (tyCred.mframe (tyCred.mframe (tyCred.mframe HM0_3.out fun b hb => heap_setCell_other _ ⟨w.heap.size, 0, none⟩ b _ (by have h := HF0.out b hb; show b ≠ w.heap.size; omega)) fun b hb => heap_setCell_other _ ⟨w.heap.size, 1, none⟩ b _ (by have h := HF0.out b hb; show b ≠ w.heap.size; omega)) fun b hb => heap_setCell_other _ ⟨w.heap.size, 2, none⟩ b _ (by have h := HF0.out b hb; show b ≠ w.heap.size; omega)) fun b hb => heap_setCell_other _ ⟨w.heap.size + 1, 0, none⟩ b _ (by have h := HF0.out b hb; show b ≠ w.heap.size + 1; omega)) fun b hb => heap_setCell_other _ ⟨w.heap.size + 1, 1, none⟩ b _ (by have h := HF0.out b hb; show b ≠ w.heap.size + 1; omega)) fun b hb => heap_setCell_other _ ⟨w.heap.size + 1, 2, none⟩ b _ (by have h := HF0.out b hb; show b ≠ w.heap.size + 1; omega)) fun b hb => by have h := HF0.out b hb; simp only [World.size_setCell]; omega, tyCred.mr (tyCred.mframe (tyCred.mframe (tyCred.mframe (tyCred.mframe (tyCred.mframe (tyCred.mframe HM1_3.out fun b hb => heap_setCell_other _ ⟨w.heap.size, 0, none⟩ b _ (by have h := HF1.out b hb; show b ≠ w.heap.size; omega)) fun b hb => heap_setCell_other _ ⟨w.heap.size, 1, none⟩ b _ (by have h := HF1.out b hb; show b ≠ w.heap.size; omega)) fun b hb => heap_setCell_other _ ⟨w.heap.size, 2, none⟩ b _ (by have h := HF1.out b hb; show b ≠ w.heap.size; omega)) fun b hb => heap_setCell_other _ ⟨w.heap.size + 1, 0, none⟩ b _ (by have h := HF1.out b hb; show b ≠ w.heap.size + 1; omega)) fun b hb => heap_setCell_other _ ⟨w.heap.size + 1, 1, none⟩ b _ (by have h := HF1.out b hb; show b ≠ w.heap.size + 1; omega)) fun b hb => heap_setCell_other _ ⟨w.heap.size + 1, 2, none⟩ b _ (by have h := HF1.out b hb; show b ≠ w.heap.size + 1; omega)) fun b hb => by have h := HF1.out b hb; simp only [World.size_setCell]; omega, HSM0.out, HSM1.out, (((((((HB1.out.trans (HT3.out.low (lo := w.heap.size) (by omega) (by omega))).setCell (p := ⟨w.heap.size, 0, none⟩) (by show w.heap.size ≤ w.heap.size; omega) _).setCell (p := ⟨w.heap.size, 1, none⟩) (by show w.heap.size ≤ w.heap.size; omega) _).setCell (p := ⟨w.heap.size, 2, none⟩) (by show w.heap.size ≤ w.heap.size; omega) _).setCell (p := ⟨w.heap.size + 1, 0, none⟩) (by show w.heap.size ≤ w.heap.size + 1; omega) _).setCell (p := ⟨w.heap.size + 1, 1, none⟩) (by show w.heap.size ≤ w.heap.size + 1; omega) _).setCell (p := ⟨w.heap.size + 1, 2, none⟩) (by show w.heap.size ≤ w.heap.size + 1; omega) _)⟩

set_option maxHeartbeats 1000000 in
set_option maxRecDepth 100000 in
theorem dDrawModeText_any (hc : Code w A n) (hcap : n ≤ c) (hcap2 : c ≤ maxLen) : Calls Try.prog 26 #[.slice A n c] w fun e w' => ∃ (x0 : Int), e = .returned (.int .i64 x0) ∧ -1 ≤ x0 ∧ x0 ≤ 512 ∧ Below w.heap.size w w' := by
  have HA0 := Lib.hid (show Below w.heap.size w w from (Below.refl _ _))
  go_enter Try.func26, Try.ntmps26
  go_wp2_with fail
  refine (open_any (hc.below HA0.out) hcap hcap2).mono ?_
  rintro e w1 ⟨A', n', c', rfl, hr, hb1⟩
  have hg := hr.box.lt
  have HB1 := Lib.hid (HA0.out.trans (hb1.mono HA0.out.size))
  have HT1 := Lib.hid (Touch.refl w1 (some ⟨w.heap.size, 0, none⟩) 1)
  have HR1 := Lib.hid hr
  have hq1 : (0 : Int) ≤ 0 := by omega
  clear hb1 hr
  go_wp2_with fail
  refine (mode_any HR1.out (by omega)).mono ?_
  rintro e w2 ⟨x2, q2, rfl, lo2, up2, hrd, hq2, ht⟩
  have hz2 := hrd.p0
  have HR2 := Lib.hid hrd
  have HT2 := Lib.hid (HT1.out.trans ht)
  have hs2 := ht.size
  clear hrd ht
  go_wp2_with fail
  go_ret
  exact ⟨x2, rfl, lo2, up2, (HB1.out.trans (HT2.out.low (lo := w.heap.size) (by omega) (by omega)))⟩

set_option maxHeartbeats 1000000 in
set_option maxRecDepth 100000 in
theorem dDrawModeMay_any (hc : Code w A n) (hcap : n ≤ c) (hcap2 : c ≤ maxLen) : Calls Try.prog 23 #[.slice A n c] w fun e w' => ∃ (y00 y01 y02 : Value) (D0 : Cr) (x0 : Int) (x1 : Int) (x2 : Int) (x3 : Int), e = .returned (.tuple #[.agg #[y00, y01, y02], .int .i64 x0, .int .i64 x1, .int .i64 x2, .int .i64 x3]) ∧ 0 ≤ x0 ∧ x0 < 5 ∧ 0 ≤ x1 ∧ x1 < 5 ∧ -1 ≤ x2 ∧ x2 ≤ 512 ∧ 0 ≤ x3 ∧ x3 < 9 ∧ tyCred.R w' w'.heap.size [y00, y01, y02] D0 ∧ smallCred D0 ∧ Below w.heap.size w w' := by
  have HA0 := Lib.hid (show Below w.heap.size w (w.alloc (.cells #[.int .i64 0, .int .i64 0, .slice none 0 0] 25)) from ((Below.refl _ _).alloc (Nat.le_refl _) _))
  have Z0_0 := Lib.hid (Box.new w #[.int .i64 0, .int .i64 0, .slice none 0 0] 25)
  go_enter Try.func23, Try.ntmps23
  go_wp2_with fail
  refine (open_any (hc.below HA0.out) hcap hcap2).mono ?_
  rintro e w1 ⟨A', n', c', rfl, hr, hb1⟩
  have hg := hr.box.lt
  have HB1 := Lib.hid (HA0.out.trans (hb1.mono HA0.out.size))
  have Z0_1 := Lib.hid (Z0_0.out.below hb1 Z0_0.out.lt)
  simp only [World.size_alloc] at hr hg
  have HT1 := Lib.hid (Touch.refl w1 (some ⟨w.heap.size + 1, 0, none⟩) 1)
  have HR1 := Lib.hid hr
  have hq1 : (0 : Int) ≤ 0 := by omega
  clear hb1 hr
  go_wp2_with fail
  refine (cred_any HR1.out (by omega)).mono ?_
  rintro e w2 ⟨a0, b0, d0, D0, fp0, q2, rfl, hm0, hf0, hsm0, hrd, hq2, ht⟩
  have hz2 := hrd.p0
  have HM0_2 := Lib.hid hm0
  have HF0 := Lib.hid hf0
  have HSM0 := Lib.hid hsm0
  clear hm0 hf0 hsm0
  have HR2 := Lib.hid hrd
  have HT2 := Lib.hid (HT1.out.trans ht)
  have hs2 := ht.size
  have Z0_2 := Lib.hid (ht.box Z0_1.out (fun a e => by injection e with e; subst e; show w.heap.size ≠ w.heap.size + 1; omega))
  clear hrd ht
  go_wp2_with fail
  refine (pick2_any 5 (by omega) (by omega) HR2.out (by omega)).mono ?_
  rintro e w3 ⟨x3, rfl, lo3, up3, hrd, ht⟩
  have HR3 := Lib.hid hrd
  have HT3 := Lib.hid (HT2.out.trans ht)
  have hs3 := ht.size
  have Z0_3 := Lib.hid (ht.box Z0_2.out (fun a e => by injection e with e; subst e; show w.heap.size ≠ w.heap.size + 1; omega))
  have HM0_3 := Lib.hid (tyCred.mframe HM0_2.out fun b hb => ht.block b (by have h := HF0.out b hb; omega) fun _ a e => by injection e with e; subst e; have h := HF0.out b hb; show b ≠ w.heap.size + 1; omega)
  clear hrd ht
  go_wp2_with fail
  refine (pick2_any 5 (by omega) (by omega) HR3.out (by omega)).mono ?_
  rintro e w4 ⟨x4, rfl, lo4, up4, hrd, ht⟩
  have HR4 := Lib.hid hrd
  have HT4 := Lib.hid (HT3.out.trans ht)
  have hs4 := ht.size
  have Z0_4 := Lib.hid (ht.box Z0_3.out (fun a e => by injection e with e; subst e; show w.heap.size ≠ w.heap.size + 1; omega))
  have HM0_4 := Lib.hid (tyCred.mframe HM0_3.out fun b hb => ht.block b (by have h := HF0.out b hb; omega) fun _ a e => by injection e with e; subst e; have h := HF0.out b hb; show b ≠ w.heap.size + 1; omega)
  clear hrd ht
  go_wp2_with fail
  refine (mode_any HR4.out (by omega)).mono ?_
  rintro e w5 ⟨x5, q5, rfl, lo5, up5, hrd, hq5, ht⟩
  have hz5 := hrd.p0
  have HR5 := Lib.hid hrd
  have HT5 := Lib.hid (HT4.out.trans ht)
  have hs5 := ht.size
  have Z0_5 := Lib.hid (ht.box Z0_4.out (fun a e => by injection e with e; subst e; show w.heap.size ≠ w.heap.size + 1; omega))
  have HM0_5 := Lib.hid (tyCred.mframe HM0_4.out fun b hb => ht.block b (by have h := HF0.out b hb; omega) fun _ a e => by injection e with e; subst e; have h := HF0.out b hb; show b ≠ w.heap.size + 1; omega)
  clear hrd ht
  go_wp2_with fail
  refine (pick2_any 9 (by omega) (by omega) HR5.out (by omega)).mono ?_
  rintro e w6 ⟨x6, rfl, lo6, up6, hrd, ht⟩
  have HR6 := Lib.hid hrd
  have HT6 := Lib.hid (HT5.out.trans ht)
  have hs6 := ht.size
  have Z0_6 := Lib.hid (ht.box Z0_5.out (fun a e => by injection e with e; subst e; show w.heap.size ≠ w.heap.size + 1; omega))
  have HM0_6 := Lib.hid (tyCred.mframe HM0_5.out fun b hb => ht.block b (by have h := HF0.out b hb; omega) fun _ a e => by injection e with e; subst e; have h := HF0.out b hb; show b ≠ w.heap.size + 1; omega)
  clear hrd ht
  obtain ⟨A0, n0, c0, hcs⟩ := tyCred_shM HM0_6.out
  simp only [List.cons.injEq, and_true] at hcs
  obtain ⟨rfl, rfl, rfl⟩ := hcs
  have z00 := Z0_6.out.cell 0
  have e00 := Z0_6.out.frz 0
  have z01 := Z0_6.out.cell 1
  have e01 := Z0_6.out.frz 1
  have z02 := Z0_6.out.cell 2
  have e02 := Z0_6.out.frz 2
  have zl0 := Z0_6.out.lt
  simp at z00 z01 z02
  go_wp2_with fail
  refine bodyPost_ret (v := .tuple #[.agg #[.int .i64 D0.1, .int .i64 D0.2.1, .slice A0 n0 c0], .int .i64 (x3), .int .i64 (x4), .int .i64 (x5), .int .i64 (x6)]) (by simp [results, Try.results23, go_sem, z00, z01, z02]) rfl ⟨.int .i64 D0.1, .int .i64 D0.2.1, .slice A0 n0 c0, D0, x3, x4, x5, x6, rfl, lo3, up3, lo4, up4, lo5, up5, lo6, up6, tyCred.mr (tyCred.mframe (tyCred.mframe (tyCred.mframe HM0_6.out fun b hb => heap_setCell_other _ ⟨w.heap.size, 0, none⟩ b _ (by have h := HF0.out b hb; show b ≠ w.heap.size; omega)) fun b hb => heap_setCell_other _ ⟨w.heap.size, 1, none⟩ b _ (by have h := HF0.out b hb; show b ≠ w.heap.size; omega)) fun b hb => heap_setCell_other _ ⟨w.heap.size, 2, none⟩ b _ (by have h := HF0.out b hb; show b ≠ w.heap.size; omega)) fun b hb => by have h := HF0.out b hb; simp only [World.size_setCell]; omega, HSM0.out, ((((HB1.out.trans (HT6.out.low (lo := w.heap.size) (by omega) (by omega))).setCell (p := ⟨w.heap.size, 0, none⟩) (by show w.heap.size ≤ w.heap.size; omega) _).setCell (p := ⟨w.heap.size, 1, none⟩) (by show w.heap.size ≤ w.heap.size; omega) _).setCell (p := ⟨w.heap.size, 2, none⟩) (by show w.heap.size ≤ w.heap.size; omega) _)⟩

end
end Go.Proofs.Ytacndjbhlhbknaa
