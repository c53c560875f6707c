/-
  The walk of FnQueueRun on drawn arguments.
-/
import Derived.Test.YtagggajlpmdpdaaQLaw
import Derived.Test.YtagggajlpmdpdaaTCopy
namespace Go.Proofs.Ytagggajlpmdpdaa
open Go.RowKit

section
variable {P : Program} {ops : Array Oper} {Q : Exit → Act → World → Prop} {a : Act} {w : World} {rest : List Oper} {o : Oper}
/-- an operation whose guard is on, as one without a guard -/
theorem wpList_free (hw : Region.wanted o (yielded ops a.tmps) = true) (h : wpList P ops Q ({ o with guard := none } :: rest) a w) : wpList P ops Q (o :: rest) a w := by
  unfold wpList at h ⊢
  rw [if_pos (by simp [Region.wanted])] at h
  rw [if_pos hw]
  exact h
end
theorem own_cap2 {w : World} {base size g n cap : Nat} {t : TypeId} {xs : List Value} (h : w.ownsRow base t size (.slice (some ⟨g, 0, none⟩) n cap) n xs) : n ≤ cap := by
  rcases h.2 with ⟨_, h2⟩ | ⟨g', cap', cur, e, h3⟩
  · omega
  · injection e with _ _ e3
    subst e3
    exact h3.2.2.1
theorem run_bounds {D : Qu} {n : Int} (h : (runQ D n).isSome = true) : 0 ≤ n ∧ n ≤ 1000 := by
  cases hr : runQ D n with
  | none => rw [hr] at h; cases h
  | some r => obtain ⟨_, g0, g1, _⟩ := runQ_some hr; exact ⟨g0, g1⟩
section
variable {A : Option Addr} {n c : Nat} {w : World}
set_option maxHeartbeats 4000000 in
set_option maxRecDepth 100000 in
theorem dQueueRun_walk (hRun : QRunM 26) {A2 : Option Addr} {n2 c2 : Nat} (hc : Code w A n) (hcap : n ≤ c) (hcap2 : c ≤ maxLen) (hd : Code w A2 n2) (_hdcap : n2 ≤ c2) (_hdcap2 : c2 ≤ maxLen) : Calls Try.prog 10 #[.slice A n c, .slice A2 n2 c2] w fun e w' => e = .returned (.bool true) ∧ Below w.heap.size w w' := by
  have hn := hc.1
  unfold maxLen at hn
  have hn2 := hd.1
  unfold maxLen at hn2
  have HCODE := Lib.hid hc
  clear hc hd
  by_cases hbig : (1048576 : Int) < n
  · go_enter Try.func10, Try.ntmps10
    go_wp2_with fail
    go_ret
    exact ⟨rfl, Below.refl _ _⟩
  by_cases hbig2 : (1048576 : Int) < n2
  · go_enter Try.func10, Try.ntmps10
    go_wp2_with fail
    go_ret
    exact ⟨rfl, Below.refl _ _⟩
  have HRUN := Lib.hid hRun
  clear hRun
  have HW0 := Lib.hid (Below.refl w.heap.size w)
  go_enter Try.func10, Try.ntmps10
  have HA0 := Lib.hid (show Below w.heap.size w w from (Below.refl _ _))
  go_wp2_with fail
  refine (dDrawQueueRun_any HCODE.out hcap hcap2).mono ?_
  rintro e w1 ⟨A0, n0, c0, D0, fp0, a, rfl, _, _, hm0, hf0, hl0, hcq0, hb1⟩
  have HC1 := Lib.hid (HA0.out.trans (hb1.mono HA0.out.size))
  have HW1 := Lib.hid (HW0.out.trans (HC1.out.mono HW0.out.size))
  clear hb1
  have HR0_1 := Lib.hid (tyQueue.mr hm0 fun b hb => (hf0 b hb).2)
  have HL0 := Lib.hid hl0
  have HS0 := Lib.hid (show smallQueue D0 from by unfold smallQueue; omega)
  have HK0 := Lib.hid (capQ (A := A0) hcq0)
  clear hm0 hf0 hl0 hcq0
  obtain ⟨D1, hD1⟩ : ∃ X : Qu, X = runD D0 (a) := ⟨_, rfl⟩
  have HD1 := Lib.hid hD1
  obtain ⟨LL, hLL⟩ : ∃ X : List Int, X = runI D0 (a) := ⟨_, rfl⟩
  have HLL := Lib.hid hLL
  obtain ⟨BB, hBB⟩ : ∃ X : Bool, X = (runQ D0 (a)).isSome := ⟨_, rfl⟩
  have HBB := Lib.hid hBB
  clear hD1 hLL hBB
  have HA1 := Lib.hid (show Below w1.heap.size w1 (w1.alloc (.cells #[.slice A0 n0 c0, .int .i64 D0.2] 25)) from ((Below.refl _ _).alloc (Nat.le_refl _) _))
  go_wp2_with fail
  refine (HRUN.out (a) (Ty.below_w HR0_1.out HA1.out) HS0.out HK0.out).mono ?_
  rintro e w2 ⟨p10, p11, fp1, I1, i1, j1, fi1, rfl, hm1, hf1, hs1, hk1, hi1, hfi1, hl1, hn1, hb2⟩
  have HC2 := Lib.hid (HA1.out.trans (hb2.mono HA1.out.size))
  have HW2 := Lib.hid (HW1.out.trans (HC2.out.mono HW1.out.size))
  have HR0_2 := Lib.hid (Ty.below_w HR0_1.out HC2.out)
  have C0_2 := Lib.hid ((Box.new w1 #[.slice A0 n0 c0, .int .i64 D0.2] 25).below hb2 (by simp only [World.size_alloc]; omega))
  clear hb2
  rw [← HD1.out] at hm1 hs1
  rw [← HLL.out] at hi1 hl1
  rw [← HBB.out]
  obtain ⟨E1, m1, o1, hcs⟩ := tyQueue_shM hm1
  simp only [List.cons.injEq, and_true] at hcs
  obtain ⟨rfl, rfl⟩ := hcs
  have HQ1_2 := Lib.hid (tyQueue.mr hm1 fun b hb => (hf1 b hb).2)
  have HS1 := Lib.hid hs1
  have HK1 := Lib.hid hk1
  clear hm1 hf1 hs1 hk1
  have HI1_2 := Lib.hid (hi1.row fun b hb => (hfi1 b hb).2.1)
  have HLI := Lib.hid hl1
  clear hi1 hfi1 hl1
  have HA2 := Lib.hid (show Below w2.heap.size w2 (w2.alloc (.cells #[.slice E1 m1 o1, .int .i64 (D1).2] 25)) from ((Below.refl _ _).alloc (Nat.le_refl _) _))
  have c0_c0 := C0_2.out.cell 0
  have c0_c1 := C0_2.out.cell 1
  simp at c0_c0 c0_c1
  have c0_l := C0_2.out.lt
  go_wp2_with fail
  refine (queueRun_s (a) (Ty.below_w HR0_2.out HA2.out) HS0.out HK0.out).mono ?_
  rintro e w3 ⟨p20, p21, I2, i2, j2, rfl, hm2, hi2, hl2, hb3⟩
  clear c0_c0 c0_c1 c0_l
  have HC3 := Lib.hid (HA2.out.trans (hb3.mono HA2.out.size))
  have HW3 := Lib.hid (HW2.out.trans (HC3.out.mono HW2.out.size))
  have HR0_3 := Lib.hid (Ty.below_w HR0_2.out HC3.out)
  have HQ1_3 := Lib.hid (Ty.below_w HQ1_2.out HC3.out)
  have C0_3 := Lib.hid (C0_2.out.below HC3.out C0_2.out.lt)
  have X_3 := Lib.hid ((Box.new w2 #[.slice E1 m1 o1, .int .i64 (D1).2] 25).below hb3 (by simp only [World.size_alloc]; omega))
  clear hb3
  have HI1_3 := Lib.hid (HI1_2.out.wb HC3.out)
  rw [← HD1.out] at hm2
  rw [← HLL.out] at hi2 hl2
  rw [← HBB.out]
  obtain rfl : i2 = i1 := hl2.symm.trans HLI.out
  obtain ⟨E2, m2, o2, hcs⟩ := tyQueue_sh hm2
  simp only [List.cons.injEq, and_true] at hcs
  obtain ⟨rfl, rfl⟩ := hcs
  have HQ2_3 := Lib.hid (hm2)
  clear hm2
  have HI2_3 := Lib.hid hi2
  clear hi2 hl2
  have hbb : (BB == BB) = true := by simp
  have HA3 := Lib.hid (show Below w3.heap.size w3 (w3.alloc (.cells #[.slice E2 m2 o2, .int .i64 (D1).2] 25)) from ((Below.refl _ _).alloc (Nat.le_refl _) _))
  have c0_c0 := C0_3.out.cell 0
  have c0_c1 := C0_3.out.cell 1
  have x_c0 := X_3.out.cell 0
  have x_c1 := X_3.out.cell 1
  simp at c0_c0 c0_c1 x_c0 x_c1
  have c0_l := C0_3.out.lt
  have x_l := X_3.out.lt
  go_wp2_with fail
  refine (qdQueue_t (Ty.below_w HQ1_3.out HA3.out) (Ty.below_w HQ2_3.out HA3.out)).mono ?_
  rintro e w4 ⟨rfl, hb4⟩
  clear c0_c0 c0_c1 x_c0 x_c1 c0_l x_l
  have HC4 := Lib.hid (HA3.out.trans (hb4.mono HA3.out.size))
  have HW4 := Lib.hid (HW3.out.trans (HC4.out.mono HW3.out.size))
  have HR0_4 := Lib.hid (Ty.below_w HR0_3.out HC4.out)
  have HQ1_4 := Lib.hid (Ty.below_w HQ1_3.out HC4.out)
  have HQ2_4 := Lib.hid (Ty.below_w HQ2_3.out HC4.out)
  have C0_4 := Lib.hid (C0_3.out.below HC4.out C0_3.out.lt)
  have X_4 := Lib.hid (X_3.out.below HC4.out X_3.out.lt)
  have Y_4 := Lib.hid ((Box.new w3 #[.slice E2 m2 o2, .int .i64 (D1).2] 25).below hb4 (by simp only [World.size_alloc]; omega))
  clear hb4
  have HI1_4 := Lib.hid (HI1_3.out.wb HC4.out)
  have HI2_4 := Lib.hid (HI2_3.out.wb HC4.out)
  have HA4 := Lib.hid (show Below w4.heap.size w4 w4 from (Below.refl _ _))
  have c0_c0 := C0_4.out.cell 0
  have c0_c1 := C0_4.out.cell 1
  have x_c0 := X_4.out.cell 0
  have x_c1 := X_4.out.cell 1
  have y_c0 := Y_4.out.cell 0
  have y_c1 := Y_4.out.cell 1
  simp at c0_c0 c0_c1 x_c0 x_c1 y_c0 y_c1
  have c0_l := C0_4.out.lt
  have x_l := X_4.out.lt
  have y_l := Y_4.out.lt
  go_wp2_with fail
  refine (qdInt_S (HI1_4.out.wb HA4.out) (HI2_4.out.wb HA4.out) (by omega)).mono ?_
  rintro e w5 ⟨rfl, hb5⟩
  clear c0_c0 c0_c1 x_c0 x_c1 y_c0 y_c1 c0_l x_l y_l
  have HC5 := Lib.hid (HA4.out.trans (hb5.mono HA4.out.size))
  have HW5 := Lib.hid (HW4.out.trans (HC5.out.mono HW4.out.size))
  have HR0_5 := Lib.hid (Ty.below_w HR0_4.out HC5.out)
  have HQ1_5 := Lib.hid (Ty.below_w HQ1_4.out HC5.out)
  have HQ2_5 := Lib.hid (Ty.below_w HQ2_4.out HC5.out)
  have C0_5 := Lib.hid (C0_4.out.below HC5.out C0_4.out.lt)
  have X_5 := Lib.hid (X_4.out.below HC5.out X_4.out.lt)
  have Y_5 := Lib.hid (Y_4.out.below HC5.out Y_4.out.lt)
  clear hb5
  have HI1_5 := Lib.hid (HI1_4.out.wb HC5.out)
  have HI2_5 := Lib.hid (HI2_4.out.wb HC5.out)
  by_cases h0 : BB = true
  case neg =>
    have h0' : BB = false := by simpa using h0
    rw [h0']
    clear h0
    have HA5 := Lib.hid (show Below w5.heap.size w5 w5 from (Below.refl _ _))
    have c0_c0 := C0_5.out.cell 0
    have c0_c1 := C0_5.out.cell 1
    have x_c0 := X_5.out.cell 0
    have x_c1 := X_5.out.cell 1
    have y_c0 := Y_5.out.cell 0
    have y_c1 := Y_5.out.cell 1
    simp at c0_c0 c0_c1 x_c0 x_c1 y_c0 y_c1
    have c0_l := C0_5.out.lt
    have x_l := X_5.out.lt
    have y_l := Y_5.out.lt
    go_wp2_with fail
    go_ret
    exact ⟨rfl, HW5.out⟩
  have hrun := HBB.out.symm.trans h0
  rw [h0]
  clear h0 hbb
  have hn1000 := run_bounds hrun
  obtain ⟨k, hk⟩ : ∃ k : Int, k = (n2 : Int) % (a + 1) := ⟨_, rfl⟩
  have hk0 : 0 ≤ k ∧ k ≤ a := by
    rw [hk]
    have h1 := Int.emod_nonneg (n2 : Int) (show a + 1 ≠ 0 by omega)
    have h2 := Int.emod_lt_of_pos (n2 : Int) (show 0 < a + 1 by omega)
    omega
  have hw1 : IntKind.i64.wrap (a + 1) = a + 1 := IntWalk.i64_in _ (by omega)
  have hw2 : IntKind.i64.wrap (a - k) = a - k := IntWalk.i64_in _ (by omega)
  have hw3 : IntKind.i64.wrap k = k := IntWalk.i64_in _ (by omega)
  have ha1 : ¬ (a + 1 = 0) := by omega
  have hq1 : ((a + 1) == 0) = false := by rw [beq_eq_false_iff_ne]; exact ha1
  obtain ⟨lw1, lw2, lw3, lw4, lw5⟩ := run_law hrun hk0.1 hk0.2
  rw [← HD1.out] at lw3
  rw [← HLL.out] at lw4 lw5
  have L3 := Lib.hid lw3
  have L4 := Lib.hid lw4
  have L5 := Lib.hid lw5
  have HK1' := Lib.hid hk
  rw [HLI.out] at lw5
  obtain ⟨D2, hD2⟩ : ∃ X : Qu, X = runD D0 k := ⟨_, rfl⟩
  obtain ⟨LA, hLA⟩ : ∃ X : List Int, X = runI D0 k := ⟨_, rfl⟩
  have HD2 := Lib.hid hD2
  have HLA := Lib.hid hLA
  have R1 := Lib.hid lw1
  have R2 := Lib.hid lw2
  have L6 := Lib.hid lw5
  clear lw5
  clear hrun hn1000 lw1 lw2 lw3 lw4 hD2 hLA hk
  have HA5 := Lib.hid (show Below w5.heap.size w5 w5 from (Below.refl _ _))
  have c0_c0 := C0_5.out.cell 0
  have c0_c1 := C0_5.out.cell 1
  have x_c0 := X_5.out.cell 0
  have x_c1 := X_5.out.cell 1
  have y_c0 := Y_5.out.cell 0
  have y_c1 := Y_5.out.cell 1
  simp at c0_c0 c0_c1 x_c0 x_c1 y_c0 y_c1
  have c0_l := C0_5.out.lt
  have x_l := X_5.out.lt
  have y_l := Y_5.out.lt
  go_wp2_with fail
  refine (HRUN.out ((n2 : Int) % (a + 1)) (Ty.below_w HR0_5.out HA5.out) HS0.out HK0.out).mono ?_
  rintro e w6 ⟨p30, p31, fp3, I3, i3, j3, fi3, rfl, hm3, hf3, hs3, hk3, hi3, hfi3, hl3, hn3, hb6⟩
  clear c0_c0 c0_c1 x_c0 x_c1 y_c0 y_c1 c0_l x_l y_l
  have HC6 := Lib.hid (HA5.out.trans (hb6.mono HA5.out.size))
  have HW6 := Lib.hid (HW5.out.trans (HC6.out.mono HW5.out.size))
  have HR0_6 := Lib.hid (Ty.below_w HR0_5.out HC6.out)
  have HQ1_6 := Lib.hid (Ty.below_w HQ1_5.out HC6.out)
  have HQ2_6 := Lib.hid (Ty.below_w HQ2_5.out HC6.out)
  have C0_6 := Lib.hid (C0_5.out.below HC6.out C0_5.out.lt)
  have X_6 := Lib.hid (X_5.out.below HC6.out X_5.out.lt)
  have Y_6 := Lib.hid (Y_5.out.below HC6.out Y_5.out.lt)
  clear hb6
  have HI1_6 := Lib.hid (HI1_5.out.wb HC6.out)
  rw [← HK1'.out] at hm3 hs3 hi3 hl3
  rw [← HK1'.out]
  rw [← HD2.out] at hm3 hs3
  rw [← HLA.out] at hi3 hl3
  rw [R1.out]
  obtain ⟨E3, m3, o3, hcs⟩ := tyQueue_shM hm3
  simp only [List.cons.injEq, and_true] at hcs
  obtain ⟨rfl, rfl⟩ := hcs
  have HQ3_6 := Lib.hid (tyQueue.mr hm3 fun b hb => (hf3 b hb).2)
  have HS3 := Lib.hid hs3
  have HK3 := Lib.hid hk3
  clear hm3 hf3 hs3 hk3
  have HI3_6 := Lib.hid (hi3.row fun b hb => (hfi3 b hb).2.1)
  have HLI3 := Lib.hid hl3
  clear hi3 hfi3 hl3
  have HA6 := Lib.hid (show Below w6.heap.size w6 (w6.alloc (.cells #[.slice E3 m3 o3, .int .i64 (D2).2] 25)) from ((Below.refl _ _).alloc (Nat.le_refl _) _))
  have c0_c0 := C0_6.out.cell 0
  have c0_c1 := C0_6.out.cell 1
  have x_c0 := X_6.out.cell 0
  have x_c1 := X_6.out.cell 1
  have y_c0 := Y_6.out.cell 0
  have y_c1 := Y_6.out.cell 1
  simp at c0_c0 c0_c1 x_c0 x_c1 y_c0 y_c1
  have c0_l := C0_6.out.lt
  have x_l := X_6.out.lt
  have y_l := Y_6.out.lt
  go_wp2_with fail
  refine (HRUN.out (a - k) (Ty.below_w HQ3_6.out HA6.out) HS3.out HK3.out).mono ?_
  rintro e w7 ⟨p40, p41, fp4, I4, i4, j4, fi4, rfl, hm4, hf4, hs4, hk4, hi4, hfi4, hl4, hn4, hb7⟩
  clear c0_c0 c0_c1 x_c0 x_c1 y_c0 y_c1 c0_l x_l y_l
  have HC7 := Lib.hid (HA6.out.trans (hb7.mono HA6.out.size))
  have HW7 := Lib.hid (HW6.out.trans (HC7.out.mono HW6.out.size))
  have HR0_7 := Lib.hid (Ty.below_w HR0_6.out HC7.out)
  have HQ1_7 := Lib.hid (Ty.below_w HQ1_6.out HC7.out)
  have HQ2_7 := Lib.hid (Ty.below_w HQ2_6.out HC7.out)
  have HQ3_7 := Lib.hid (Ty.below_w HQ3_6.out HC7.out)
  have C0_7 := Lib.hid (C0_6.out.below HC7.out C0_6.out.lt)
  have X_7 := Lib.hid (X_6.out.below HC7.out X_6.out.lt)
  have Y_7 := Lib.hid (Y_6.out.below HC7.out Y_6.out.lt)
  have Z_7 := Lib.hid ((Box.new w6 #[.slice E3 m3 o3, .int .i64 (D2).2] 25).below hb7 (by simp only [World.size_alloc]; omega))
  clear hb7
  have HI1_7 := Lib.hid (HI1_6.out.wb HC7.out)
  have HI3_7 := Lib.hid (HI3_6.out.wb HC7.out)
  rw [HD2.out, L3.out] at hm4 hs4
  rw [HD2.out] at hi4 hl4
  rw [HD2.out, R2.out]
  obtain ⟨LB, hLB⟩ : ∃ X : List Int, X = runI (runD D0 k) (a - k) := ⟨_, rfl⟩
  have HLB := Lib.hid hLB
  rw [← HLB.out] at hi4 hl4
  clear hLB
  obtain ⟨E4, m4, o4, hcs⟩ := tyQueue_shM hm4
  simp only [List.cons.injEq, and_true] at hcs
  obtain ⟨rfl, rfl⟩ := hcs
  have HQ4_7 := Lib.hid (tyQueue.mr hm4 fun b hb => (hf4 b hb).2)
  have HS4 := Lib.hid hs4
  have HK4 := Lib.hid hk4
  clear hm4 hf4 hs4 hk4
  have HI4_7 := Lib.hid (hi4.row fun b hb => (hfi4 b hb).2.1)
  have HLI4 := Lib.hid hl4
  clear hi4 hfi4 hl4
  have hsum : LA ++ LB = LL := by rw [HLA.out, HLB.out]; exact L4.out
  have HSUM := Lib.hid hsum
  have hln : i3 + i4 = i2 := by rw [← HLI3.out, ← HLI4.out, ← HLI.out, ← HSUM.out, List.length_append]
  clear hsum
  have HA7 := Lib.hid (show Below w7.heap.size w7 (w7.alloc (.cells #[.slice E4 m4 o4, .int .i64 (D1).2] 25)) from ((Below.refl _ _).alloc (Nat.le_refl _) _))
  have c0_c0 := C0_7.out.cell 0
  have c0_c1 := C0_7.out.cell 1
  have x_c0 := X_7.out.cell 0
  have x_c1 := X_7.out.cell 1
  have y_c0 := Y_7.out.cell 0
  have y_c1 := Y_7.out.cell 1
  have z_c0 := Z_7.out.cell 0
  have z_c1 := Z_7.out.cell 1
  simp at c0_c0 c0_c1 x_c0 x_c1 y_c0 y_c1 z_c0 z_c1
  have c0_l := C0_7.out.lt
  have x_l := X_7.out.lt
  have y_l := Y_7.out.lt
  have z_l := Z_7.out.lt
  go_wp2_with fail
  refine (qdQueue_t (Ty.below_w HQ4_7.out HA7.out) (Ty.below_w HQ1_7.out HA7.out)).mono ?_
  rintro e w8 ⟨rfl, hb8⟩
  clear c0_c0 c0_c1 x_c0 x_c1 y_c0 y_c1 z_c0 z_c1 c0_l x_l y_l z_l
  have HC8 := Lib.hid (HA7.out.trans (hb8.mono HA7.out.size))
  have HW8 := Lib.hid (HW7.out.trans (HC8.out.mono HW7.out.size))
  have HI1_8 := Lib.hid (HI1_7.out.wb HC8.out)
  have HI3_8 := Lib.hid (HI3_7.out.wb HC8.out)
  have HI4_8 := Lib.hid (HI4_7.out.wb HC8.out)
  clear hb8
  generalize hgw : w8 = WW at HW8 HI1_8 HI3_8 HI4_8 ⊢
  clear hgw
  obtain ⟨i0, hi0, hz0, hz1, hz2⟩ := infoInt
  have HI := Lib.hid hi0
  have HZ0 := Lib.hid hz0
  have HZ1 := Lib.hid hz1
  have HZ2 := Lib.hid hz2
  clear hi0 hz0 hz1 hz2
  have B3 := Lib.hid (Box.new WW #[] 3)
  have HB := Lib.hid (show Below WW.heap.size WW (WW.alloc (.cells #[] 3)) from (Below.refl _ _).alloc (Nat.le_refl _) _)
  have hl6 := L6.out
  have hlit : (((i2 : Nat) : Int) == a) = true := by rw [beq_iff_eq]; exact hl6
  clear hl6
  obtain rfl : i2 = i3 + i4 := hln.symm
  have hcs : (((i3 + i4 : Nat) : Int)) = (i3 : Int) + (i4 : Int) := by omega
  have hlit2 : ((i3 : Int) + (i4 : Int) == a) = true := by rw [beq_iff_eq]; have := L6.out; omega
  clear hln
  by_cases h3 : 0 < i3
  · obtain ⟨b3, o3, rfl, _, _, _⟩ := HI3_8.out h3
    by_cases h4 : 0 < i4
    · obtain ⟨b4, o4, rfl, _, _, _⟩ := HI4_8.out h4
      go_wp2_with (first
        | (at_builtin
           refine wpList_free (by rfl) ?_
           refine wpList_append_lies _ rfl _ _ 28 rfl WW.heap.size 3 i0 (.int .i64 0) 1 8 Try.underlying28 HI.out HZ0.out HZ1.out HZ2.out rfl (by decide) (.slice (some ⟨WW.heap.size, 0, none⟩) 0 0) 0 [] ?hsA (own_empty' B3.out (by omega)) ⟨b3, o3, none⟩ i3 j3 (LA.flatMap elI.C) ?hxA ?hlA ?hnA ?h1A (by omega) ?h6A ?hbA ?hcA _ rfl ?_
           case hsA => rfl
           case hxA => rfl
           case hlA => rw [flat_len, HLI3.out]; rfl
           case hnA => exact (HI3_8.out.wb HB.out).news HLI3.out (by decide)
           case h1A =>
             intro q hq
             obtain ⟨z, _, hz2⟩ := List.mem_flatMap.1 hq
             rw [List.mem_singleton.1 hz2]
             rfl
           case h6A => simp only [maxLen]; omega
           case hbA => omega
           case hcA => exact HB.out.size
           intro gA capA wA hown hg hat hltA
           rw [Nat.zero_add, List.nil_append] at hown
           try rw [Nat.zero_add]
           have HBA := Lib.hid (HB.out.grown hg HB.out.size (fun k e => by simp [Value.ownBlock] at e; omega))
           have HOWN := Lib.hid hown
           have hgeA := (hown.lt gA rfl).1
           clear hown
           clear hg hat)
        | (at_builtin
           refine wpList_free (by rfl) ?_
           refine wpList_append_lies _ rfl _ _ 28 rfl WW.heap.size 3 i0 (.int .i64 0) 1 8 Try.underlying28 HI.out HZ0.out HZ1.out HZ2.out rfl (by decide) (.slice (some ⟨gA, 0, none⟩) i3 capA) i3 (LA.flatMap elI.C) ?hsB HOWN.out ⟨b4, o4, none⟩ i4 j4 (LB.flatMap elI.C) ?hxB ?hlB ?hnB ?h1B (by omega) ?h6B ?hbB ?hcB _ rfl ?_
           case hsB => rfl
           case hxB => rfl
           case hlB => rw [flat_len, HLI4.out]; rfl
           case hnB => exact (HI4_8.out.wb HBA.out).news HLI4.out (by decide)
           case h1B =>
             intro q hq
             obtain ⟨z, _, hz2⟩ := List.mem_flatMap.1 hq
             rw [List.mem_singleton.1 hz2]
             rfl
           case h6B => simp only [maxLen]; omega
           case hbB => omega
           case hcB => exact HBA.out.size
           intro gB capB wB hown hg hat hltB
           rw [← List.flatMap_append, HSUM.out] at hown
           skip
           have HBB := Lib.hid (HBA.out.grown hg HBA.out.size (fun k e => by simp [Value.ownBlock] at e; omega))
           have HM := Lib.hid (RowM.of_owns hown HLI.out)
           clear hown
           clear hg hat))
      refine (qdInt_S (HM.out.row (hi := wB.heap.size) (fun b hb => by rw [List.mem_singleton] at hb; omega)) (HI1_8.out.wb HBB.out) (by omega)).mono ?_
      rintro e wz ⟨rfl, hbz⟩
      have HBZ := Lib.hid (HBB.out.trans (hbz.mono HBB.out.size))
      clear hbz
      go_wp2_with fail
      go_ret
      exact ⟨rfl, HW8.out.trans (HBZ.out.mono HW8.out.size)⟩
    · obtain rfl : i4 = 0 := by omega
      have hlb : LB = [] := List.eq_nil_of_length_eq_zero HLI4.out
      rw [hlb, List.append_nil] at HSUM
      have hsm := HSUM.out
      subst hsm
      have hl3 : ((i3 : Int) == a) = true := by rw [beq_iff_eq]; have := L6.out; omega
      cases I4
      all_goals
        go_wp2_with (first
          | (at_builtin
             refine wpList_free (by rfl) ?_
             refine wpList_append_lies _ rfl _ _ 28 rfl WW.heap.size 3 i0 (.int .i64 0) 1 8 Try.underlying28 HI.out HZ0.out HZ1.out HZ2.out rfl (by decide) (.slice (some ⟨WW.heap.size, 0, none⟩) 0 0) 0 [] ?hsA (own_empty' B3.out (by omega)) ⟨b3, o3, none⟩ i3 j3 (LA.flatMap elI.C) ?hxA ?hlA ?hnA ?h1A (by omega) ?h6A ?hbA ?hcA _ rfl ?_
             case hsA => rfl
             case hxA => rfl
             case hlA => rw [flat_len, HLI3.out]; rfl
             case hnA => exact (HI3_8.out.wb HB.out).news HLI3.out (by decide)
             case h1A =>
               intro q hq
               obtain ⟨z, _, hz2⟩ := List.mem_flatMap.1 hq
               rw [List.mem_singleton.1 hz2]
               rfl
             case h6A => simp only [maxLen]; omega
             case hbA => omega
             case hcA => exact HB.out.size
             intro gA capA wA hown hg hat hltA
             rw [Nat.zero_add, List.nil_append] at hown
             try rw [Nat.zero_add]
             have HBA := Lib.hid (HB.out.grown hg HB.out.size (fun k e => by simp [Value.ownBlock] at e; omega))
             have hcpA := own_cap2 hown
             have HM := Lib.hid (RowM.of_owns hown HLI3.out)
             clear hown
             clear hg hat))
        refine (qdInt_S (HM.out.row (hi := wA.heap.size) (fun b hb => by rw [List.mem_singleton] at hb; omega)) (HI1_8.out.wb HBA.out) (by omega)).mono ?_
        rintro e wz ⟨rfl, hbz⟩
        have HBZ := Lib.hid (HBA.out.trans (hbz.mono HBA.out.size))
        clear hbz
        go_wp2_with fail
        go_ret
        exact ⟨rfl, HW8.out.trans (HBZ.out.mono HW8.out.size)⟩
  · obtain rfl : i3 = 0 := by omega
    have hla : LA = [] := List.eq_nil_of_length_eq_zero HLI3.out
    rw [hla, List.nil_append] at HSUM
    have hsm := HSUM.out
    subst hsm
    rw [Nat.zero_add] at HI1_8
    have hl3 : ((i4 : Int) == a) = true := by rw [beq_iff_eq]; have := L6.out; omega
    cases I3
    all_goals
      by_cases h4 : 0 < i4
      · obtain ⟨b4, o4, rfl, _, _, _⟩ := HI4_8.out h4
        go_wp2_with (first
          | (at_builtin
             refine wpList_free (by rfl) ?_
             refine wpList_append_lies _ rfl _ _ 28 rfl WW.heap.size 3 i0 (.int .i64 0) 1 8 Try.underlying28 HI.out HZ0.out HZ1.out HZ2.out rfl (by decide) (.slice (some ⟨WW.heap.size, 0, none⟩) 0 0) 0 [] ?hsB (own_empty' B3.out (by omega)) ⟨b4, o4, none⟩ i4 j4 (LB.flatMap elI.C) ?hxB ?hlB ?hnB ?h1B (by omega) ?h6B ?hbB ?hcB _ rfl ?_
             case hsB => rfl
             case hxB => rfl
             case hlB => rw [flat_len, HLI4.out]; rfl
             case hnB => exact (HI4_8.out.wb HB.out).news HLI4.out (by decide)
             case h1B =>
               intro q hq
               obtain ⟨z, _, hz2⟩ := List.mem_flatMap.1 hq
               rw [List.mem_singleton.1 hz2]
               rfl
             case h6B => simp only [maxLen]; omega
             case hbB => omega
             case hcB => exact HB.out.size
             intro gB capB wB hown hg hat hltB
             rw [Nat.zero_add, List.nil_append] at hown
             try rw [Nat.zero_add]
             have HBB := Lib.hid (HB.out.grown hg HB.out.size (fun k e => by simp [Value.ownBlock] at e; omega))
             have HM := Lib.hid (RowM.of_owns hown HLI4.out)
             clear hown
             clear hg hat))
        refine (qdInt_S (HM.out.row (hi := wB.heap.size) (fun b hb => by rw [List.mem_singleton] at hb; omega)) (HI1_8.out.wb HBB.out) (by omega)).mono ?_
        rintro e wz ⟨rfl, hbz⟩
        have HBZ := Lib.hid (HBB.out.trans (hbz.mono HBB.out.size))
        clear hbz
        go_wp2_with fail
        go_ret
        exact ⟨rfl, HW8.out.trans (HBZ.out.mono HW8.out.size)⟩
      · obtain rfl : i4 = 0 := by omega
        obtain rfl : a = 0 := by have := L6.out; omega
        clear hcs hlit2 hl3 hlit hw1 hw2 hw3 ha1 hq1 hk0
        have hemp : ∀ (w : World) (A : Option Addr), RowF elI w 0 A 0 LB := fun _ _ h => absurd h (Nat.lt_irrefl 0)
        cases I4
        all_goals
          go_wp2_with fail
          refine (qdInt_S (hemp _ _) (HI1_8.out.wb HB.out) (by omega)).mono ?_
          rintro e wz ⟨rfl, hbz⟩
          have HBZ := Lib.hid (HB.out.trans (hbz.mono HB.out.size))
          clear hbz
          go_wp2_with fail
          go_ret
          exact ⟨rfl, HW8.out.trans (HBZ.out.mono HW8.out.size)⟩
end
end Go.Proofs.Ytagggajlpmdpdaa
