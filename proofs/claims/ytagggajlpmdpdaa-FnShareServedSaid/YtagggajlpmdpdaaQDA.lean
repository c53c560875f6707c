/-
  The walk of FnShareServed on drawn arguments.
-/
import Derived.Test.YtagggajlpmdpdaaQLaw
namespace Go.Proofs.Ytagggajlpmdpdaa
open Go.RowKit

section
variable {A : Option Addr} {n c : Nat} {w : World}
set_option maxHeartbeats 4000000 in
set_option maxRecDepth 100000 in
theorem dShareServed_walk (hRun : QRunM 26) {A2 : Option Addr} {n2 c2 : Nat} (hc : Code w A n) (hcap : n ≤ c) (hcap2 : c ≤ maxLen) (hd : Code w A2 n2) (_hdcap : n2 ≤ c2) (_hdcap2 : c2 ≤ maxLen) : Calls Try.prog 12 #[.slice A n c, .slice A2 n2 c2] w fun e w' => e = .returned (.bool true) ∧ Below w.heap.size w w' := by
  have hn := hc.1
  unfold maxLen at hn
  have hn2 := hd.1
  unfold maxLen at hn2
  have HCODE := Lib.hid hc
  clear hc hd
  by_cases hbig : (1048576 : Int) < n
  · go_enter Try.func12, Try.ntmps12
    go_wp2_with fail
    go_ret
    exact ⟨rfl, Below.refl _ _⟩
  by_cases hbig2 : (1048576 : Int) < n2
  · go_enter Try.func12, Try.ntmps12
    go_wp2_with fail
    go_ret
    exact ⟨rfl, Below.refl _ _⟩
  have HRUN := Lib.hid hRun
  clear hRun
  have HW0 := Lib.hid (Below.refl w.heap.size w)
  go_enter Try.func12, Try.ntmps12
  have HA0 := Lib.hid (show Below w.heap.size w w from (Below.refl _ _))
  go_wp2_with fail
  refine (dDrawQueueRun_any HCODE.out hcap hcap2).mono ?_
  rintro e w1 ⟨A0, n0, c0, D0, fp0, a, rfl, _, _, hm0, hf0, hl0, hcq0, hb1⟩
  have HC1 := Lib.hid (HA0.out.trans (hb1.mono HA0.out.size))
  have HW1 := Lib.hid (HW0.out.trans (HC1.out.mono HW0.out.size))
  clear hb1
  have HR0_1 := Lib.hid (tyQueue.mr hm0 fun b hb => (hf0 b hb).2)
  have HL0 := Lib.hid hl0
  have HS0 := Lib.hid (show smallQueue D0 from by unfold smallQueue; omega)
  have HK0 := Lib.hid (capQ (A := A0) hcq0)
  clear hm0 hf0 hl0 hcq0
  have hm40 : 0 ≤ (n2 : Int) % 40 ∧ (n2 : Int) % 40 < 40 := by omega
  have hw60 : IntKind.i64.wrap (60 + (n2 : Int) % 40) = 60 + (n2 : Int) % 40 := IntWalk.i64_in _ (by omega)
  obtain ⟨D1, hD1⟩ : ∃ X : Qu, X = runD D0 (60 + (n2 : Int) % 40) := ⟨_, rfl⟩
  have HD1 := Lib.hid hD1
  obtain ⟨LL, hLL⟩ : ∃ X : List Int, X = runI D0 (60 + (n2 : Int) % 40) := ⟨_, rfl⟩
  have HLL := Lib.hid hLL
  obtain ⟨BB, hBB⟩ : ∃ X : Bool, X = (runQ D0 (60 + (n2 : Int) % 40)).isSome := ⟨_, rfl⟩
  have HBB := Lib.hid hBB
  clear hD1 hLL hBB
  have HA1 := Lib.hid (show Below w1.heap.size w1 (w1.alloc (.cells #[.slice A0 n0 c0, .int .i64 D0.2] 25)) from ((Below.refl _ _).alloc (Nat.le_refl _) _))
  go_wp2_with fail
  refine (HRUN.out (60 + (n2 : Int) % 40) (Ty.below_w HR0_1.out HA1.out) HS0.out HK0.out).mono ?_
  rintro e w2 ⟨p10, p11, fp1, I1, i1, j1, fi1, rfl, hm1, hf1, hs1, hk1, hi1, hfi1, hl1, hn1, hb2⟩
  have HC2 := Lib.hid (HA1.out.trans (hb2.mono HA1.out.size))
  have HW2 := Lib.hid (HW1.out.trans (HC2.out.mono HW1.out.size))
  have HR0_2 := Lib.hid (Ty.below_w HR0_1.out HC2.out)
  have C0_2 := Lib.hid ((Box.new w1 #[.slice A0 n0 c0, .int .i64 D0.2] 25).below hb2 (by simp only [World.size_alloc]; omega))
  clear hb2
  rw [← HD1.out] at hm1 hs1
  rw [← HLL.out] at hi1 hl1
  rw [← HBB.out]
  obtain ⟨E1, m1, o1, hcs⟩ := tyQueue_shM hm1
  simp only [List.cons.injEq, and_true] at hcs
  obtain ⟨rfl, rfl⟩ := hcs
  have HQ1_2 := Lib.hid (tyQueue.mr hm1 fun b hb => (hf1 b hb).2)
  have HS1 := Lib.hid hs1
  have HK1 := Lib.hid hk1
  clear hm1 hf1 hs1 hk1
  have HI1_2 := Lib.hid (hi1.row fun b hb => (hfi1 b hb).2.1)
  have HLI := Lib.hid hl1
  clear hi1 hfi1 hl1
  have HA2 := Lib.hid (show Below w2.heap.size w2 (w2.alloc (.cells #[.slice E1 m1 o1, .int .i64 (D1).2] 25)) from ((Below.refl _ _).alloc (Nat.le_refl _) _))
  have c0_c0 := C0_2.out.cell 0
  have c0_c1 := C0_2.out.cell 1
  simp at c0_c0 c0_c1
  have c0_l := C0_2.out.lt
  go_wp2_with fail
  refine (queueRun_s (60 + (n2 : Int) % 40) (Ty.below_w HR0_2.out HA2.out) HS0.out HK0.out).mono ?_
  rintro e w3 ⟨p20, p21, I2, i2, j2, rfl, hm2, hi2, hl2, hb3⟩
  clear c0_c0 c0_c1 c0_l
  have HC3 := Lib.hid (HA2.out.trans (hb3.mono HA2.out.size))
  have HW3 := Lib.hid (HW2.out.trans (HC3.out.mono HW2.out.size))
  have HR0_3 := Lib.hid (Ty.below_w HR0_2.out HC3.out)
  have HQ1_3 := Lib.hid (Ty.below_w HQ1_2.out HC3.out)
  have C0_3 := Lib.hid (C0_2.out.below HC3.out C0_2.out.lt)
  have X_3 := Lib.hid ((Box.new w2 #[.slice E1 m1 o1, .int .i64 (D1).2] 25).below hb3 (by simp only [World.size_alloc]; omega))
  clear hb3
  have HI1_3 := Lib.hid (HI1_2.out.wb HC3.out)
  rw [← HD1.out] at hm2
  rw [← HLL.out] at hi2 hl2
  rw [← HBB.out]
  obtain rfl : i2 = i1 := hl2.symm.trans HLI.out
  obtain ⟨E2, m2, o2, hcs⟩ := tyQueue_sh hm2
  simp only [List.cons.injEq, and_true] at hcs
  obtain ⟨rfl, rfl⟩ := hcs
  have HQ2_3 := Lib.hid (hm2)
  clear hm2
  have HI2_3 := Lib.hid hi2
  clear hi2 hl2
  have hbb : (BB != BB) = false := by simp
  have HA3 := Lib.hid (show Below w3.heap.size w3 (w3.alloc (.cells #[.slice E2 m2 o2, .int .i64 (D1).2] 25)) from ((Below.refl _ _).alloc (Nat.le_refl _) _))
  have c0_c0 := C0_3.out.cell 0
  have c0_c1 := C0_3.out.cell 1
  have x_c0 := X_3.out.cell 0
  have x_c1 := X_3.out.cell 1
  simp at c0_c0 c0_c1 x_c0 x_c1
  have c0_l := C0_3.out.lt
  have x_l := X_3.out.lt
  go_wp2_with fail
  refine (qdInt_S (HI1_3.out.wb HA3.out) (HI2_3.out.wb HA3.out) (by omega)).mono ?_
  rintro e w4 ⟨rfl, hb4⟩
  clear c0_c0 c0_c1 x_c0 x_c1 c0_l x_l
  have HC4 := Lib.hid (HA3.out.trans (hb4.mono HA3.out.size))
  have HW4 := Lib.hid (HW3.out.trans (HC4.out.mono HW3.out.size))
  have HR0_4 := Lib.hid (Ty.below_w HR0_3.out HC4.out)
  have HQ1_4 := Lib.hid (Ty.below_w HQ1_3.out HC4.out)
  have HQ2_4 := Lib.hid (Ty.below_w HQ2_3.out HC4.out)
  have C0_4 := Lib.hid (C0_3.out.below HC4.out C0_3.out.lt)
  have X_4 := Lib.hid (X_3.out.below HC4.out X_3.out.lt)
  have Y_4 := Lib.hid ((Box.new w3 #[.slice E2 m2 o2, .int .i64 (D1).2] 25).below hb4 (by simp only [World.size_alloc]; omega))
  clear hb4
  have HI1_4 := Lib.hid (HI1_3.out.wb HC4.out)
  have HI2_4 := Lib.hid (HI2_3.out.wb HC4.out)
  have HA4 := Lib.hid (show Below w4.heap.size w4 w4 from (Below.refl _ _))
  have c0_c0 := C0_4.out.cell 0
  have c0_c1 := C0_4.out.cell 1
  have x_c0 := X_4.out.cell 0
  have x_c1 := X_4.out.cell 1
  have y_c0 := Y_4.out.cell 0
  have y_c1 := Y_4.out.cell 1
  simp at c0_c0 c0_c1 x_c0 x_c1 y_c0 y_c1
  have c0_l := C0_4.out.lt
  have x_l := X_4.out.lt
  have y_l := Y_4.out.lt
  go_wp2_with fail
  refine (qdQueue_t (Ty.below_w HQ1_4.out HA4.out) (Ty.below_w HQ2_4.out HA4.out)).mono ?_
  rintro e w5 ⟨rfl, hb5⟩
  clear c0_c0 c0_c1 x_c0 x_c1 y_c0 y_c1 c0_l x_l y_l
  have HC5 := Lib.hid (HA4.out.trans (hb5.mono HA4.out.size))
  have HW5 := Lib.hid (HW4.out.trans (HC5.out.mono HW4.out.size))
  have HR0_5 := Lib.hid (Ty.below_w HR0_4.out HC5.out)
  have HQ1_5 := Lib.hid (Ty.below_w HQ1_4.out HC5.out)
  have HQ2_5 := Lib.hid (Ty.below_w HQ2_4.out HC5.out)
  have C0_5 := Lib.hid (C0_4.out.below HC5.out C0_4.out.lt)
  have X_5 := Lib.hid (X_4.out.below HC5.out X_4.out.lt)
  have Y_5 := Lib.hid (Y_4.out.below HC5.out Y_4.out.lt)
  clear hb5
  have HI1_5 := Lib.hid (HI1_4.out.wb HC5.out)
  have HI2_5 := Lib.hid (HI2_4.out.wb HC5.out)
  clear hbb
  by_cases h0 : BB = true
  case neg =>
    have h0' : BB = false := by simpa using h0
    rw [h0']
    clear h0
    have HA5 := Lib.hid (show Below w5.heap.size w5 w5 from (Below.refl _ _))
    have c0_c0 := C0_5.out.cell 0
    have c0_c1 := C0_5.out.cell 1
    have x_c0 := X_5.out.cell 0
    have x_c1 := X_5.out.cell 1
    have y_c0 := Y_5.out.cell 0
    have y_c1 := Y_5.out.cell 1
    simp at c0_c0 c0_c1 x_c0 x_c1 y_c0 y_c1
    have c0_l := C0_5.out.lt
    have x_l := X_5.out.lt
    have y_l := Y_5.out.lt
    go_wp2_with fail
    refine (qdInt_S (HI1_5.out.wb HA5.out) (HI2_5.out.wb HA5.out) (by omega)).mono ?_
    rintro e w6 ⟨rfl, hb6⟩
    clear c0_c0 c0_c1 x_c0 x_c1 y_c0 y_c1 c0_l x_l y_l
    have HC6 := Lib.hid (HA5.out.trans (hb6.mono HA5.out.size))
    have HW6 := Lib.hid (HW5.out.trans (HC6.out.mono HW5.out.size))
    have HR0_6 := Lib.hid (Ty.below_w HR0_5.out HC6.out)
    have HQ1_6 := Lib.hid (Ty.below_w HQ1_5.out HC6.out)
    have HQ2_6 := Lib.hid (Ty.below_w HQ2_5.out HC6.out)
    have C0_6 := Lib.hid (C0_5.out.below HC6.out C0_5.out.lt)
    have X_6 := Lib.hid (X_5.out.below HC6.out X_5.out.lt)
    have Y_6 := Lib.hid (Y_5.out.below HC6.out Y_5.out.lt)
    clear hb6
    have HI1_6 := Lib.hid (HI1_5.out.wb HC6.out)
    have HI2_6 := Lib.hid (HI2_5.out.wb HC6.out)
    have HA6 := Lib.hid (show Below w6.heap.size w6 w6 from (Below.refl _ _))
    have c0_c0 := C0_6.out.cell 0
    have c0_c1 := C0_6.out.cell 1
    have x_c0 := X_6.out.cell 0
    have x_c1 := X_6.out.cell 1
    have y_c0 := Y_6.out.cell 0
    have y_c1 := Y_6.out.cell 1
    simp at c0_c0 c0_c1 x_c0 x_c1 y_c0 y_c1
    have c0_l := C0_6.out.lt
    have x_l := X_6.out.lt
    have y_l := Y_6.out.lt
    go_wp2_with fail
    refine (qdQueue_t (Ty.below_w HQ1_6.out HA6.out) (Ty.below_w HQ2_6.out HA6.out)).mono ?_
    rintro e w7 ⟨rfl, hb7⟩
    clear c0_c0 c0_c1 x_c0 x_c1 y_c0 y_c1 c0_l x_l y_l
    have HC7 := Lib.hid (HA6.out.trans (hb7.mono HA6.out.size))
    have HW7 := Lib.hid (HW6.out.trans (HC7.out.mono HW6.out.size))
    have HR0_7 := Lib.hid (Ty.below_w HR0_6.out HC7.out)
    have HQ1_7 := Lib.hid (Ty.below_w HQ1_6.out HC7.out)
    have HQ2_7 := Lib.hid (Ty.below_w HQ2_6.out HC7.out)
    have C0_7 := Lib.hid (C0_6.out.below HC7.out C0_6.out.lt)
    have X_7 := Lib.hid (X_6.out.below HC7.out X_6.out.lt)
    have Y_7 := Lib.hid (Y_6.out.below HC7.out Y_6.out.lt)
    clear hb7
    have HI1_7 := Lib.hid (HI1_6.out.wb HC7.out)
    have HI2_7 := Lib.hid (HI2_6.out.wb HC7.out)
    have HA7 := Lib.hid (show Below w7.heap.size w7 w7 from (Below.refl _ _))
    have c0_c0 := C0_7.out.cell 0
    have c0_c1 := C0_7.out.cell 1
    have x_c0 := X_7.out.cell 0
    have x_c1 := X_7.out.cell 1
    have y_c0 := Y_7.out.cell 0
    have y_c1 := Y_7.out.cell 1
    simp at c0_c0 c0_c1 x_c0 x_c1 y_c0 y_c1
    have c0_l := C0_7.out.lt
    have x_l := X_7.out.lt
    have y_l := Y_7.out.lt
    go_wp2_with fail
    go_ret
    exact ⟨rfl, HW7.out⟩
  have hrun := HBB.out.symm.trans h0
  rw [h0]
  clear h0
  obtain ⟨hq0, hsv⟩ := served_law hrun (by omega)
  rw [← HLL.out, HLI.out] at hsv
  have hln := qR_len HR0_5.out
  rw [hln] at hsv
  have HSV := Lib.hid hsv
  have HF := Lib.hid (qB_iff.1 hq0).2.2
  have hn6 : n0 ≤ 6 := by have := HL0.out; omega
  have HRA := Lib.hid (qR_row HR0_5.out)
  have HII := Lib.hid HI1_5.out
  clear hq0 hsv hln hrun hm40 hw60
  have HA5 := Lib.hid (show Below w5.heap.size w5 w5 from (Below.refl _ _))
  have c0_c0 := C0_5.out.cell 0
  have c0_c1 := C0_5.out.cell 1
  have x_c0 := X_5.out.cell 0
  have x_c1 := X_5.out.cell 1
  have y_c0 := Y_5.out.cell 0
  have y_c1 := Y_5.out.cell 1
  simp at c0_c0 c0_c1 x_c0 x_c1 y_c0 y_c1
  have c0_l := C0_5.out.lt
  have x_l := X_5.out.lt
  have y_l := Y_5.out.lt
  go_wp2_with fail
  generalize hLC : w1.heap.size = LC at C0_5 ⊢
  clear c0_c0 c0_c1 x_c0 x_c1 y_c0 y_c1 c0_l x_l y_l
  go_loopw [13] (fun i wr => ∃ k : Nat, k ≤ n0 ∧ i = .int .i64 k ∧ Box wr LC #[.slice A0 n0 c0, .int .i64 D0.2] 25 ∧ Below w5.heap.size w5 wr) (fun i _ => n0 - (intOf i).toNat)
  case atStart => exact ⟨0, Nat.zero_le _, rfl, C0_5.out, Below.refl _ _⟩
  case round =>
    obtain ⟨i, hi, rfl, hc, hb⟩ := hrel
    have C1 := Lib.hid hc
    have HB := Lib.hid hb
    clear hc hb
    have v0 := C1.out.cell 0
    simp at v0
    by_cases hlt : i < n0
    · have hi1 : (i : Int) < n0 := by omega
      have hi2 : (0 : Int) ≤ i := by omega
      go_wp2_with fail
      clear v0
      go_loopw [14, 15] (fun gv kv wr => ∃ k : Nat, k ≤ i2 ∧ kv = .int .i64 k ∧ gv = .bool (gotTo LL (tA D0.1 i).f0 k) ∧ Box wr LC #[.slice A0 n0 c0, .int .i64 D0.2] 25 ∧ Below w5.heap.size w5 wr) (fun _ kv _ => i2 - (intOf kv).toNat)
      case atStart => exact ⟨0, Nat.zero_le _, rfl, rfl, C1.out, HB.out⟩
      case round =>
        obtain ⟨k, hk, rfl, rfl, hc, hb⟩ := hrel
        clear C1 HB
        have C2 := Lib.hid hc
        have HB := Lib.hid hb
        clear hc hb
        have v0 := C2.out.cell 0
        have v1 := C2.out.cell 1
        simp at v0 v1
        obtain ⟨b, o, rfl, hb0, hcs⟩ := HRA.out (by omega)
        obtain ⟨t0, _, t2, t3⟩ := (hcs i hlt).below HB.out hb0
        clear hcs
        by_cases hlk : k < i2
        · obtain ⟨b2, o2, rfl, _, hb2, hd⟩ := HII.out (by omega)
          have hk1 : (k : Int) < i2 := by omega
          have hk2 : (0 : Int) ≤ k := by omega
          have d0 : w5.cell? ⟨b2, o2 + k, none⟩ = some (.int .i64 (LL.getD k elI.z)) := by
            have h := hd k hlk 0 (by decide)
            rw [show o2 + k * elI.K + 0 = o2 + k from by show o2 + k * 1 + 0 = o2 + k; omega] at h
            exact h
          rw [← kc HB.out _ _ hb2] at d0
          have HST := Lib.hid (show gotTo LL (tA D0.1 i).f0 (k + 1) = (gotTo LL (tA D0.1 i).f0 k || (LL.getD k elI.z == (tA D0.1 i).f0)) from rfl)
          clear hd t2 t3
          generalize gotTo LL (tA D0.1 i).f0 k = gk at HST ⊢
          generalize LL.getD k elI.z = lk at d0 HST
          generalize htf : (tA D0.1 i).f0 = f0 at t0 HST ⊢
          have HTF := Lib.hid htf
          clear htf
          cases gk
          · rw [Bool.false_or] at HST
            go_wp2_with fail
            go_quiet (fail)
            go_wp2_with fail
            go_roundw
            case rel => exact ⟨k + 1, by omega, by go_num, by rw [HST.out], C2.out, bel_drewN HB.out _⟩
            case measure => simp [intOf]; omega
          · rw [Bool.true_or] at HST
            go_wp2_with fail
            go_quiet (fail)
            go_wp2_with fail
            go_roundw
            case rel => exact ⟨k + 1, by omega, by go_num, by rw [HST.out], C2.out, bel_drewN HB.out _⟩
            case measure => simp [intOf]; omega
        · obtain rfl : k = i2 := by omega
          have hsv := HSV.out i hlt
          have hF := HF.out
          have hw6 : IntKind.i64.wrap (D0.2 + 60) = D0.2 + 60 := IntWalk.i64_in _ (by omega)
          clear hlk t0
          generalize gotTo LL (tA D0.1 i).f0 k = gk at hsv ⊢
          generalize (tA D0.1 i).f3 = f3 at t3 hsv
          generalize (tA D0.1 i).f2 = f2 at t2 hsv
          cases f3
          · clear hsv
            go_wp2_with fail
            go_quiet (fail)
            go_wp2_with fail
            go_roundw
            case rel => exact ⟨i + 1, by omega, by go_num, C2.out, bel_drewN HB.out _⟩
            case measure => simp [intOf]; omega
          · have hsv := hsv rfl
            by_cases hle : f2 ≤ D0.2 + 60
            · have hg := hsv hle
              have hld : decide (f2 ≤ D0.2 + 60) = true := decide_eq_true hle
              subst hg
              clear hsv
              go_wp2_with fail
              go_quiet (fail)
              go_wp2_with fail
              go_roundw
              case rel => exact ⟨i + 1, by omega, by go_num, C2.out, bel_drewN HB.out _⟩
              case measure => simp [intOf]; omega
            · have hld : decide (f2 ≤ D0.2 + 60) = false := decide_eq_false hle
              clear hsv
              go_wp2_with fail
              go_quiet (fail)
              go_wp2_with fail
              go_roundw
              case rel => exact ⟨i + 1, by omega, by go_num, C2.out, bel_drewN HB.out _⟩
              case measure => simp [intOf]; omega
    · obtain rfl : i = n0 := by omega
      clear hlt
      have HE := Lib.hid (HW5.out.trans (HB.out.mono HW5.out.size))
      go_wp2_with fail
      go_ret
      exact ⟨rfl, HE.out⟩
end
end Go.Proofs.Ytagggajlpmdpdaa
