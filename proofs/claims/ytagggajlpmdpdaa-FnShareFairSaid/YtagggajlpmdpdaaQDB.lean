/-
  The walk of FnShareFair on drawn arguments.
-/
import Derived.Test.YtagggajlpmdpdaaQLaw
namespace Go.Proofs.Ytagggajlpmdpdaa
open Go.RowKit

section
variable {A : Option Addr} {n c : Nat} {w : World}
set_option maxHeartbeats 4000000 in
set_option maxRecDepth 100000 in
theorem dShareFair_walk (hRun : QRunM 26) (hc : Code w A n) (hcap : n ≤ c) (hcap2 : c ≤ maxLen) : Calls Try.prog 11 #[.slice A n c] w fun e w' => e = .returned (.bool true) ∧ Below w.heap.size w w' := by
  have hn := hc.1
  unfold maxLen at hn
  by_cases hbig : (1048576 : Int) < n
  · go_enter Try.func11, Try.ntmps11
    go_wp2_with fail
    go_ret
    exact ⟨rfl, Below.refl _ _⟩
  have HCODE := Lib.hid hc
  clear hc
  have HRUN := Lib.hid hRun
  clear hRun
  have HW0 := Lib.hid (Below.refl w.heap.size w)
  go_enter Try.func11, Try.ntmps11
  have HA0 := Lib.hid (show Below w.heap.size w w from (Below.refl _ _))
  go_wp2_with fail
  refine (dDrawQueueRun_any HCODE.out hcap hcap2).mono ?_
  rintro e w1 ⟨A0, n0, c0, D0, fp0, a, rfl, _, _, hm0, hf0, hl0, hcq0, hb1⟩
  have HC1 := Lib.hid (HA0.out.trans (hb1.mono HA0.out.size))
  have HW1 := Lib.hid (HW0.out.trans (HC1.out.mono HW0.out.size))
  clear hb1
  have HL0 := Lib.hid hl0
  have HK0 := Lib.hid (capQ (A := A0) hcq0)
  have hln := qR_len (tyQueue.mr (hi := w1.heap.size) hm0 fun b hb => (hf0 b hb).2)
  have C0 := Lib.hid (Box.new w1 #[.slice A0 n0 c0, .int .i64 D0.2] 25)
  have HA := Lib.hid (show Below w1.heap.size w1 (w1.alloc (.cells #[.slice A0 n0 c0, .int .i64 D0.2] 25)) from (Below.refl _ _).alloc (Nat.le_refl _) _)
  have HWA := Lib.hid (HW1.out.trans (HA.out.mono HW1.out.size))
  have HF0 := Lib.hid hf0
  have hn60 : n0 ≤ 6 := by omega
  have HL6 := Lib.hid hn60
  have HM0 := Lib.hid (Ty.mb hm0 HA.out fun b hb => (hf0 b hb).2)
  clear hm0 hf0 hl0 hcq0
  obtain ⟨l0, F⟩ := D0
  dsimp only at hln
  go_wp2_with fail
  generalize w1.heap.size = LC at C0 HF0 ⊢
  go_loopw [5] (fun i wr => ∃ (k : Nat) (l : List ETask), k ≤ n0 ∧ i = .int .i64 k ∧ l.length = n0 ∧ (∀ j, j < k → (tA l j).f3 = true ∧ (tA l j).f2 = F) ∧ tyQueue.M wr fp0 [.slice A0 n0 c0, .int .i64 F] (l, F) ∧ Box wr LC #[.slice A0 n0 c0, .int .i64 F] 25 ∧ Below w.heap.size w wr) (fun i _ => n0 - (intOf i).toNat)
  case atStart => exact ⟨0, l0, Nat.zero_le _, rfl, hln, fun j h => absurd h (Nat.not_lt_zero j), HM0.out, C0.out, HWA.out⟩
  case round =>
    obtain ⟨k, l, hk, rfl, hl, hall, hm, hc, hb⟩ := hrel
    clear C0 HM0 HWA HA
    have HLN := Lib.hid hl
    have HALL := Lib.hid hall
    have HM := Lib.hid hm
    have C1 := Lib.hid hc
    have HB := Lib.hid hb
    clear hl hall hm hc hb hln
    have v0 := C1.out.cell 0
    have v1 := C1.out.cell 1
    have vl := C1.out.lt
    simp at v0 v1
    by_cases hlt : k < n0
    · obtain ⟨bb, bo, bc, hx0, hx1, hfe, hbs, hfz, hrw, hmx, hat⟩ := ownQ HM.out (k := k) (by dsimp only; rw [HLN.out]; exact hlt)
      dsimp only at hx0 hrw hat
      injection hx0 with e1 e2 e3
      subst e1 e3
      rw [HLN.out] at hrw hat
      subst hfe
      have hlb := HF0.out bb (List.mem_singleton.2 rfl)
      have hbL : ¬ (bb = LC) := by omega
      have hLb : ¬ (LC = bb) := by omega
      obtain ⟨_, _, c2, c3⟩ := hat k hlt
      have f2 := hfz (bo + k * 4 + 2)
      have f3 := hfz (bo + k * 4 + 3)
      have hk1 : (k : Int) < n0 := by omega
      have hk2 : (0 : Int) ≤ k := by omega
      have hr1 := rowM_ready (x := true) hrw HLN.out hlt
      have hL1 : (l.set k (setR (tA l k) true)).length = n0 := by rw [List.length_set]; exact HLN.out
      have hr2 := rowM_cost (x := F) hr1 hL1 hlt
      have HR2 := Lib.hid hr2
      have HL2 := Lib.hid (show ((l.set k (setR (tA l k) true)).set k (setC (tA (l.set k (setR (tA l k) true)) k) F)).length = n0 by rw [List.length_set]; exact hL1)
      have HAT := Lib.hid (show ∀ j, j < k + 1 → (tA ((l.set k (setR (tA l k) true)).set k (setC (tA (l.set k (setR (tA l k) true)) k) F)) j).f3 = true ∧ (tA ((l.set k (setR (tA l k) true)).set k (setC (tA (l.set k (setR (tA l k) true)) k) F)) j).f2 = F from fun j hj => by
        rw [getD_setT _ k j _ (by rw [hL1]; exact hlt)]
        by_cases e : j = k
        · rw [if_pos e, getD_setT _ k k _ (by rw [HLN.out]; exact hlt), if_pos rfl]
          exact ⟨rfl, rfl⟩
        · rw [if_neg e, getD_setT _ k j _ (by rw [HLN.out]; exact hlt), if_neg e]
          exact HALL.out j (by omega))
      have HC2 := Lib.hid ((C1.out.other (a := ⟨bb, bo + k * 4 + 3, none⟩) hLb (.bool true)).other (a := ⟨bb, bo + k * 4 + 2, none⟩) hLb (.int .i64 F))
      have HB2 := Lib.hid ((HB.out.setCell (p := ⟨bb, bo + k * 4 + 3, none⟩) hlb.1 (.bool true)).setCell (p := ⟨bb, bo + k * 4 + 2, none⟩) hlb.1 (.int .i64 F))
      generalize (l.set k (setR (tA l k) true)).set k (setC (tA (l.set k (setR (tA l k) true)) k) F) = l2 at HR2 HL2 HAT
      generalize tA l k = tt at c2 c3
      clear hrw hat hfz hr1 hL1 hr2 e2 hx1
      go_wp2_with fail
      go_roundw
      case rel => exact ⟨k + 1, l2, by omega, by go_num, HL2.out, HAT.out, tyQueue_Mmk (D := (l2, F)) ⟨HL2.out, by omega, HR2.out⟩, HC2.out, HB2.out⟩
      case measure => simp [intOf]; omega
    · obtain rfl : k = n0 := by omega
      clear hlt v0 v1 vl
      have HF1 := Lib.hid (show ∀ b ∈ fp0, b < wr.heap.size from fun b hb => by have h := HF0.out b hb; have := C1.out.lt; omega)
      have HR9_20 := Lib.hid (tyQueue.mr HM.out HF1.out)
      have HS9 := Lib.hid (show smallQueue (l, F) from by have h := HLN.out; have := HL0.out; unfold smallQueue; dsimp only at this ⊢; omega)
      have HW20 := Lib.hid HB.out
      have C0_20 := Lib.hid C1.out
      have hn6 : k ≤ 6 := by have h := hk; have := HL6.out; omega
      clear HM HB C1 HF1
      obtain ⟨D1, hD1⟩ : ∃ X : Qu, X = runD (l, F) (a) := ⟨_, rfl⟩
      have HD1 := Lib.hid hD1
      obtain ⟨LL, hLL⟩ : ∃ X : List Int, X = runI (l, F) (a) := ⟨_, rfl⟩
      have HLL := Lib.hid hLL
      obtain ⟨BB, hBB⟩ : ∃ X : Bool, X = (runQ (l, F) (a)).isSome := ⟨_, rfl⟩
      have HBB := Lib.hid hBB
      clear hD1 hLL hBB
      have HA20 := Lib.hid (show Below wr.heap.size wr wr from (Below.refl _ _))
      have c0_c0 := C0_20.out.cell 0
      have c0_c1 := C0_20.out.cell 1
      simp at c0_c0 c0_c1
      have c0_l := C0_20.out.lt
      go_wp2_with fail
      refine (HRUN.out (a) (Ty.below_w HR9_20.out HA20.out) HS9.out HK0.out).mono ?_
      rintro e w21 ⟨p10, p11, fp1, I1, i1, j1, fi1, rfl, hm1, hf1, hs1, hk1, hi1, hfi1, hl1, hn1, hb21⟩
      clear c0_c0 c0_c1 c0_l
      have HC21 := Lib.hid (HA20.out.trans (hb21.mono HA20.out.size))
      have HW21 := Lib.hid (HW20.out.trans (HC21.out.mono HW20.out.size))
      have HR9_21 := Lib.hid (Ty.below_w HR9_20.out HC21.out)
      have C0_21 := Lib.hid (C0_20.out.below HC21.out C0_20.out.lt)
      clear hb21
      rw [← HD1.out] at hm1 hs1
      rw [← HLL.out] at hi1 hl1
      rw [← HBB.out]
      obtain ⟨E1, m1, o1, hcs⟩ := tyQueue_shM hm1
      simp only [List.cons.injEq, and_true] at hcs
      obtain ⟨rfl, rfl⟩ := hcs
      have HQ1_21 := Lib.hid (tyQueue.mr hm1 fun b hb => (hf1 b hb).2)
      have HS1 := Lib.hid hs1
      have HK1 := Lib.hid hk1
      clear hm1 hf1 hs1 hk1
      have HI1_21 := Lib.hid (hi1.row fun b hb => (hfi1 b hb).2.1)
      have HLI := Lib.hid hl1
      clear hi1 hfi1 hl1
      have HA21 := Lib.hid (show Below w21.heap.size w21 (w21.alloc (.cells #[.slice E1 m1 o1, .int .i64 (D1).2] 25)) from ((Below.refl _ _).alloc (Nat.le_refl _) _))
      have c0_c0 := C0_21.out.cell 0
      have c0_c1 := C0_21.out.cell 1
      simp at c0_c0 c0_c1
      have c0_l := C0_21.out.lt
      go_wp2_with fail
      refine (queueRun_s (a) (Ty.below_w HR9_21.out HA21.out) HS9.out HK0.out).mono ?_
      rintro e w22 ⟨p20, p21, I2, i2, j2, rfl, hm2, hi2, hl2, hb22⟩
      clear c0_c0 c0_c1 c0_l
      have HC22 := Lib.hid (HA21.out.trans (hb22.mono HA21.out.size))
      have HW22 := Lib.hid (HW21.out.trans (HC22.out.mono HW21.out.size))
      have HR9_22 := Lib.hid (Ty.below_w HR9_21.out HC22.out)
      have HQ1_22 := Lib.hid (Ty.below_w HQ1_21.out HC22.out)
      have C0_22 := Lib.hid (C0_21.out.below HC22.out C0_21.out.lt)
      have X_22 := Lib.hid ((Box.new w21 #[.slice E1 m1 o1, .int .i64 (D1).2] 25).below hb22 (by simp only [World.size_alloc]; omega))
      clear hb22
      have HI1_22 := Lib.hid (HI1_21.out.wb HC22.out)
      rw [← HD1.out] at hm2
      rw [← HLL.out] at hi2 hl2
      rw [← HBB.out]
      obtain rfl : i2 = i1 := hl2.symm.trans HLI.out
      obtain ⟨E2, m2, o2, hcs⟩ := tyQueue_sh hm2
      simp only [List.cons.injEq, and_true] at hcs
      obtain ⟨rfl, rfl⟩ := hcs
      have HQ2_22 := Lib.hid (hm2)
      clear hm2
      have HI2_22 := Lib.hid hi2
      clear hi2 hl2
      have hbb : (BB != BB) = false := by simp
      have HA22 := Lib.hid (show Below w22.heap.size w22 (w22.alloc (.cells #[.slice E2 m2 o2, .int .i64 (D1).2] 25)) from ((Below.refl _ _).alloc (Nat.le_refl _) _))
      have c0_c0 := C0_22.out.cell 0
      have c0_c1 := C0_22.out.cell 1
      have x_c0 := X_22.out.cell 0
      have x_c1 := X_22.out.cell 1
      simp at c0_c0 c0_c1 x_c0 x_c1
      have c0_l := C0_22.out.lt
      have x_l := X_22.out.lt
      go_wp2_with fail
      refine (qdInt_S (HI1_22.out.wb HA22.out) (HI2_22.out.wb HA22.out) (by omega)).mono ?_
      rintro e w23 ⟨rfl, hb23⟩
      clear c0_c0 c0_c1 x_c0 x_c1 c0_l x_l
      have HC23 := Lib.hid (HA22.out.trans (hb23.mono HA22.out.size))
      have HW23 := Lib.hid (HW22.out.trans (HC23.out.mono HW22.out.size))
      have HR9_23 := Lib.hid (Ty.below_w HR9_22.out HC23.out)
      have HQ1_23 := Lib.hid (Ty.below_w HQ1_22.out HC23.out)
      have HQ2_23 := Lib.hid (Ty.below_w HQ2_22.out HC23.out)
      have C0_23 := Lib.hid (C0_22.out.below HC23.out C0_22.out.lt)
      have X_23 := Lib.hid (X_22.out.below HC23.out X_22.out.lt)
      have Y_23 := Lib.hid ((Box.new w22 #[.slice E2 m2 o2, .int .i64 (D1).2] 25).below hb23 (by simp only [World.size_alloc]; omega))
      clear hb23
      have HI1_23 := Lib.hid (HI1_22.out.wb HC23.out)
      have HI2_23 := Lib.hid (HI2_22.out.wb HC23.out)
      have HA23 := Lib.hid (show Below w23.heap.size w23 w23 from (Below.refl _ _))
      have c0_c0 := C0_23.out.cell 0
      have c0_c1 := C0_23.out.cell 1
      have x_c0 := X_23.out.cell 0
      have x_c1 := X_23.out.cell 1
      have y_c0 := Y_23.out.cell 0
      have y_c1 := Y_23.out.cell 1
      simp at c0_c0 c0_c1 x_c0 x_c1 y_c0 y_c1
      have c0_l := C0_23.out.lt
      have x_l := X_23.out.lt
      have y_l := Y_23.out.lt
      go_wp2_with fail
      refine (qdQueue_t (Ty.below_w HQ1_23.out HA23.out) (Ty.below_w HQ2_23.out HA23.out)).mono ?_
      rintro e w24 ⟨rfl, hb24⟩
      clear c0_c0 c0_c1 x_c0 x_c1 y_c0 y_c1 c0_l x_l y_l
      have HC24 := Lib.hid (HA23.out.trans (hb24.mono HA23.out.size))
      have HW24 := Lib.hid (HW23.out.trans (HC24.out.mono HW23.out.size))
      have HR9_24 := Lib.hid (Ty.below_w HR9_23.out HC24.out)
      have HQ1_24 := Lib.hid (Ty.below_w HQ1_23.out HC24.out)
      have HQ2_24 := Lib.hid (Ty.below_w HQ2_23.out HC24.out)
      have C0_24 := Lib.hid (C0_23.out.below HC24.out C0_23.out.lt)
      have X_24 := Lib.hid (X_23.out.below HC24.out X_23.out.lt)
      have Y_24 := Lib.hid (Y_23.out.below HC24.out Y_23.out.lt)
      clear hb24
      have HI1_24 := Lib.hid (HI1_23.out.wb HC24.out)
      have HI2_24 := Lib.hid (HI2_23.out.wb HC24.out)
      clear hbb
      by_cases h0 : BB = true
      case neg =>
        have h0' : BB = false := by simpa using h0
        rw [h0']
        clear h0
        have HA24 := Lib.hid (show Below w24.heap.size w24 w24 from (Below.refl _ _))
        have c0_c0 := C0_24.out.cell 0
        have c0_c1 := C0_24.out.cell 1
        have x_c0 := X_24.out.cell 0
        have x_c1 := X_24.out.cell 1
        have y_c0 := Y_24.out.cell 0
        have y_c1 := Y_24.out.cell 1
        simp at c0_c0 c0_c1 x_c0 x_c1 y_c0 y_c1
        have c0_l := C0_24.out.lt
        have x_l := X_24.out.lt
        have y_l := Y_24.out.lt
        go_wp2_with fail
        refine (qdInt_S (HI1_24.out.wb HA24.out) (HI2_24.out.wb HA24.out) (by omega)).mono ?_
        rintro e w25 ⟨rfl, hb25⟩
        clear c0_c0 c0_c1 x_c0 x_c1 y_c0 y_c1 c0_l x_l y_l
        have HC25 := Lib.hid (HA24.out.trans (hb25.mono HA24.out.size))
        have HW25 := Lib.hid (HW24.out.trans (HC25.out.mono HW24.out.size))
        have HR9_25 := Lib.hid (Ty.below_w HR9_24.out HC25.out)
        have HQ1_25 := Lib.hid (Ty.below_w HQ1_24.out HC25.out)
        have HQ2_25 := Lib.hid (Ty.below_w HQ2_24.out HC25.out)
        have C0_25 := Lib.hid (C0_24.out.below HC25.out C0_24.out.lt)
        have X_25 := Lib.hid (X_24.out.below HC25.out X_24.out.lt)
        have Y_25 := Lib.hid (Y_24.out.below HC25.out Y_24.out.lt)
        clear hb25
        have HI1_25 := Lib.hid (HI1_24.out.wb HC25.out)
        have HI2_25 := Lib.hid (HI2_24.out.wb HC25.out)
        have HA25 := Lib.hid (show Below w25.heap.size w25 w25 from (Below.refl _ _))
        have c0_c0 := C0_25.out.cell 0
        have c0_c1 := C0_25.out.cell 1
        have x_c0 := X_25.out.cell 0
        have x_c1 := X_25.out.cell 1
        have y_c0 := Y_25.out.cell 0
        have y_c1 := Y_25.out.cell 1
        simp at c0_c0 c0_c1 x_c0 x_c1 y_c0 y_c1
        have c0_l := C0_25.out.lt
        have x_l := X_25.out.lt
        have y_l := Y_25.out.lt
        go_wp2_with fail
        refine (qdQueue_t (Ty.below_w HQ1_25.out HA25.out) (Ty.below_w HQ2_25.out HA25.out)).mono ?_
        rintro e w26 ⟨rfl, hb26⟩
        clear c0_c0 c0_c1 x_c0 x_c1 y_c0 y_c1 c0_l x_l y_l
        have HC26 := Lib.hid (HA25.out.trans (hb26.mono HA25.out.size))
        have HW26 := Lib.hid (HW25.out.trans (HC26.out.mono HW25.out.size))
        have HR9_26 := Lib.hid (Ty.below_w HR9_25.out HC26.out)
        have HQ1_26 := Lib.hid (Ty.below_w HQ1_25.out HC26.out)
        have HQ2_26 := Lib.hid (Ty.below_w HQ2_25.out HC26.out)
        have C0_26 := Lib.hid (C0_25.out.below HC26.out C0_25.out.lt)
        have X_26 := Lib.hid (X_25.out.below HC26.out X_25.out.lt)
        have Y_26 := Lib.hid (Y_25.out.below HC26.out Y_25.out.lt)
        clear hb26
        have HI1_26 := Lib.hid (HI1_25.out.wb HC26.out)
        have HI2_26 := Lib.hid (HI2_25.out.wb HC26.out)
        have HA26 := Lib.hid (show Below w26.heap.size w26 w26 from (Below.refl _ _))
        have c0_c0 := C0_26.out.cell 0
        have c0_c1 := C0_26.out.cell 1
        have x_c0 := X_26.out.cell 0
        have x_c1 := X_26.out.cell 1
        have y_c0 := Y_26.out.cell 0
        have y_c1 := Y_26.out.cell 1
        simp at c0_c0 c0_c1 x_c0 x_c1 y_c0 y_c1
        have c0_l := C0_26.out.lt
        have x_l := X_26.out.lt
        have y_l := Y_26.out.lt
        go_wp2_with fail
        go_ret
        exact ⟨rfl, HW26.out⟩
      have hrun := HBB.out.symm.trans h0
      rw [h0]
      clear h0
      obtain ⟨hq1, hlen, hfair⟩ := fair_law hrun (fun j hj => by dsimp only at hj ⊢; exact HALL.out j (by rw [← HLN.out]; exact hj))
      rw [← HD1.out] at hq1 hlen hfair
      have hln1 := qR_len HQ1_24.out
      have HFR := Lib.hid (show ∀ i q, i < m1 → q < m1 → (tA D1.1 i).f2 ≤ (tA D1.1 q).f2 + Int.tdiv 60 (tA D1.1 i).f1 from fun i q h1 h2 => hfair i q (by dsimp only at hlen ⊢; omega) (by dsimp only at hlen ⊢; omega))
      have HG1 := Lib.hid (show ∀ q, q < m1 → (1 ≤ (tA D1.1 q).f1 ∧ (tA D1.1 q).f1 ≤ 6) ∧ 0 ≤ (tA D1.1 q).f2 ∧ (tA D1.1 q).f2 ≤ 1000000 from fun q hq => by
        have h := tok_iff.1 ((qB_iff.1 hq1).1 q (by rw [hln1]; exact hq)).1
        omega)
      have hm6 : m1 ≤ 6 := by have h := HLN.out; dsimp only at hlen; omega
      have HRB := Lib.hid (qR_row HQ1_24.out)
      clear hq1 hlen hfair hln1 hrun
      have HA24 := Lib.hid (show Below w24.heap.size w24 w24 from (Below.refl _ _))
      have c0_c0 := C0_24.out.cell 0
      have c0_c1 := C0_24.out.cell 1
      have x_c0 := X_24.out.cell 0
      have x_c1 := X_24.out.cell 1
      have y_c0 := Y_24.out.cell 0
      have y_c1 := Y_24.out.cell 1
      simp at c0_c0 c0_c1 x_c0 x_c1 y_c0 y_c1
      have c0_l := C0_24.out.lt
      have x_l := X_24.out.lt
      have y_l := Y_24.out.lt
      go_wp2_with fail
      generalize hLX : w21.heap.size = LX at X_24 ⊢
      clear c0_c0 c0_c1 x_c0 x_c1 y_c0 y_c1 c0_l x_l y_l
      go_loopw [12] (fun i wz => ∃ q : Nat, q ≤ m1 ∧ i = .int .i64 q ∧ Box wz LX #[.slice E1 m1 o1, .int .i64 D1.2] 25 ∧ Below w24.heap.size w24 wz) (fun i _ => m1 - (intOf i).toNat)
      case atStart => exact ⟨0, Nat.zero_le _, rfl, X_24.out, Below.refl _ _⟩
      case round =>
        obtain ⟨i, hi, rfl, hx, hb⟩ := hrel
        have X1 := Lib.hid hx
        have HB := Lib.hid hb
        clear hx hb
        have x0 := X1.out.cell 0
        simp at x0
        by_cases hlt : i < m1
        · have hi1 : (i : Int) < m1 := by omega
          have hi2 : (0 : Int) ≤ i := by omega
          go_wp2_with fail
          clear x0
          go_loopw [13] (fun i wz => ∃ q : Nat, q ≤ m1 ∧ i = .int .i64 q ∧ Box wz LX #[.slice E1 m1 o1, .int .i64 D1.2] 25 ∧ Below w24.heap.size w24 wz) (fun i _ => m1 - (intOf i).toNat)
          case atStart => exact ⟨0, Nat.zero_le _, rfl, X1.out, HB.out⟩
          case round =>
            obtain ⟨q, hq, rfl, hx, hb⟩ := hrel
            clear X1 HB
            have X2 := Lib.hid hx
            have HB := Lib.hid hb
            clear hx hb
            have x0 := X2.out.cell 0
            simp at x0
            by_cases hlq : q < m1
            · obtain ⟨b2, o2, rfl, hb2, hds⟩ := HRB.out (by omega)
              have hk1 : (q : Int) < m1 := by omega
              have hk2 : (0 : Int) ≤ q := by omega
              obtain ⟨_, si1, si2, _⟩ := (hds i hlt).below HB.out hb2
              obtain ⟨_, _, sk2, _⟩ := (hds q hlq).below HB.out hb2
              have hxi := HG1.out i hlt
              have hxk := HG1.out q hlq
              have hfr := HFR.out i q hlt hlq
              have hd := tdiv_bounds hxi.1
              clear hds
              generalize (tA D1.1 i).f2 = di at si2 hfr hxi
              generalize (tA D1.1 q).f2 = dk at sk2 hfr hxk
              generalize (tA D1.1 i).f1 = wi at si1 hfr hxi hd
              have ha1 : ¬ wi = 0 := by omega
              have hq1 : (wi == 0) = false := by rw [beq_eq_false_iff_ne]; exact ha1
              have hq2 : IntKind.i64.wrap (Int.tdiv 60 wi) = Int.tdiv 60 wi := IntWalk.i64_in _ (by omega)
              have hw1 : IntKind.i64.wrap (dk + Int.tdiv 60 wi) = dk + Int.tdiv 60 wi := IntWalk.i64_in _ (by omega)
              have hng : ¬ dk + Int.tdiv 60 wi < di := by omega
              clear hxi hxk hd
              go_wp2_with fail
              go_quiet (fail)
              go_wp2_with fail
              go_roundw
              case rel => exact ⟨q + 1, by omega, by go_num, X2.out, bel_drewN HB.out _⟩
              case measure => simp [intOf]; omega
            · obtain rfl : q = m1 := by omega
              clear hlq
              go_wp2_with fail
              go_roundw
              case rel => exact ⟨i + 1, by omega, by go_num, X2.out, HB.out⟩
              case measure => simp [intOf]; omega
        · obtain rfl : i = m1 := by omega
          clear hlt
          have HE := Lib.hid (HW24.out.trans (HB.out.mono HW24.out.size))
          go_wp2_with fail
          go_ret
          exact ⟨rfl, HE.out⟩
end
end Go.Proofs.Ytagggajlpmdpdaa
