/-
  The walk of FnLockQuick on drawn arguments.
-/
import Derived.Test.YtpnlmdnjpcjhjaaLDraw1
import Derived.Test.YtpnlmdnjpcjhjaaTqLock
import Derived.Test.YtpnlmdnjpcjhjaaLS2
namespace Go.Proofs.Ytpnlmdnjpcjhjaa
open Go.RowKit

section
variable {A : Option Addr} {n c : Nat} {w : World}
set_option maxHeartbeats 4000000 in
set_option maxRecDepth 100000 in
theorem dLockQuick_walk (hNew : KNew 20) (hRun : KRun 28) (hc : Code w A n) (hcap : n ≤ c) (hcap2 : c ≤ maxLen) : Calls Try.prog 11 #[.slice A n c] w fun e w' => e = .returned (.bool true) ∧ Below w.heap.size w w' := by
  have hn := hc.1
  unfold maxLen at hn
  by_cases hbig : (1048576 : Int) < n
  · go_enter Try.func11, Try.ntmps11
    go_wp2_with fail
    go_ret
    exact ⟨rfl, Below.refl _ _⟩
  have HCODE := Lib.hid hc
  clear hc
  have HNEW := Lib.hid hNew
  clear hNew
  have HRUN := Lib.hid hRun
  clear hRun
  go_enter Try.func11, Try.ntmps11
  go_wp2_with fail
  refine (dDrawLockNew_any HCODE.out hcap hcap2).mono ?_
  rintro e w1 ⟨v0, v1, rfl, lo0, up0, lo1, up1, hb1⟩
  have HW1 := Lib.hid hb1
  clear hb1
  go_wp2_with fail
  refine (HNEW.out 1 v1).mono ?_
  generalize hDD : newL 1 v1 = DD
  generalize hBB : newB 1 v1 = BB
  have HDD := Lib.hid hDD
  have HBB := Lib.hid hBB
  clear hDD hBB
  rintro e w2 ⟨x0, x1, x2, f0, rfl, hm, hf, hsm, hb2⟩
  obtain ⟨xA1, xn1, xc1, xA2, xn2, xc2, hcs⟩ := tyLock_shM hm
  simp only [List.cons.injEq, and_true] at hcs
  obtain ⟨rfl, rfl, rfl⟩ := hcs
  have HW2 := Lib.hid (HW1.out.trans (hb2.mono HW1.out.size))
  have HX2 := Lib.hid (tyLock.mr hm fun b hb => (hf b hb).2)
  have HSM := Lib.hid hsm
  clear hm hf hsm hb2
  have HA2 := Lib.hid (show Below w2.heap.size w2 (w2.alloc (.cells #[.int .i64 DD.1, .slice xA1 xn1 xc1, .slice xA2 xn2 xc2] 28)) from (Below.refl _ _).alloc (Nat.le_refl _) _)
  have BX2 := Lib.hid (Box.new w2 #[.int .i64 DD.1, .slice xA1 xn1 xc1, .slice xA2 xn2 xc2] 28)
  go_wp2_with fail
  refine (lockNew_any 1 v1).mono ?_
  rw [HDD.out, HBB.out]
  rintro e w3 ⟨y0, y1, y2, f1, rfl, hm, hf, _, hb3⟩
  obtain ⟨yA1, yn1, yc1, yA2, yn2, yc2, hcs⟩ := tyLock_shM hm
  simp only [List.cons.injEq, and_true] at hcs
  obtain ⟨rfl, rfl, rfl⟩ := hcs
  have HC3 := Lib.hid (HA2.out.trans (hb3.mono HA2.out.size))
  have HW3 := Lib.hid (HW2.out.trans (HC3.out.mono HW2.out.size))
  have HX3 := Lib.hid (Ty.rb HX2.out HC3.out)
  have BX3 := Lib.hid (BX2.out.below hb3 (by simp))
  have HY3 := Lib.hid (tyLock.mr hm fun b hb => (hf b hb).2)
  clear hm hf hb3
  have HA3 := Lib.hid (show Below w3.heap.size w3 (w3.alloc (.cells #[.int .i64 DD.1, .slice yA1 yn1 yc1, .slice yA2 yn2 yc2] 28)) from (Below.refl _ _).alloc (Nat.le_refl _) _)
  have xc0 := BX3.out.cell 0
  have xc1' := BX3.out.cell 1
  have xc2' := BX3.out.cell 2
  simp at xc0 xc1' xc2'
  have xl := BX3.out.lt
  go_wp2_with fail
  refine (qdLock_t (Ty.rb HX3.out (HA3.out.mono HC3.out.size)) (Ty.rb HY3.out HA3.out)).mono ?_
  rintro e w4 ⟨rfl, hb4⟩
  have HC4 := Lib.hid (HA3.out.trans (hb4.mono HA3.out.size))
  have HW4 := Lib.hid (HW3.out.trans (HC4.out.mono HW3.out.size))
  have HX4 := Lib.hid (Ty.rb HX3.out (HC4.out.mono HC3.out.size))
  have BX4 := Lib.hid (BX3.out.below HC4.out BX3.out.lt)
  have HS4 := Lib.hid (Nat.le_trans HC3.out.size HC4.out.size)
  have BY4 := Lib.hid ((Box.new w3 #[.int .i64 DD.1, .slice yA1 yn1 yc1, .slice yA2 yn2 yc2] 28).below hb4 (by simp))
  have HY4 := Lib.hid (Ty.rb HY3.out HC4.out)
  clear hb4 xc0 xc1' xc2' xl
  cases BB
  · have xc0 := BX4.out.cell 0
    have xc1' := BX4.out.cell 1
    have xc2' := BX4.out.cell 2
    have yc0 := BY4.out.cell 0
    have yc1' := BY4.out.cell 1
    have yc2' := BY4.out.cell 2
    simp at xc0 xc1' xc2' yc0 yc1' yc2'
    have xl := BX4.out.lt
    have yl := BY4.out.lt
    go_wp2_with fail
    refine (qdLock_t HX4.out HY4.out).mono ?_
    rintro e w5 ⟨rfl, hb5⟩
    go_wp2_with fail
    go_ret
    exact ⟨rfl, HW4.out.trans (hb5.mono HW4.out.size)⟩
  clear BY4 HY4
  obtain ⟨m, hm⟩ : ∃ m : Nat, v1 = (m : Int) := ⟨v1.toNat, by have h := HBB.out; unfold newB at h; rw [Bool.and_eq_true] at h; have := of_inB h.2; omega⟩
  subst hm
  have hm3 : m ≤ 3 := by
    have h := HBB.out
    unfold newB at h
    rw [Bool.and_eq_true] at h
    have := of_inB h.2
    omega
  obtain ⟨EE, hEE⟩ : ∃ X : Lk, X = newLk 1 0 := ⟨_, rfl⟩
  have HEE := Lib.hid hEE
  have HQK := Lib.hid (show runL DD (List.replicate (2 * m) 0) = EE ∧ runN DD (List.replicate (2 * m) 0) = 2 * (m : Int) from by
    have hd : DD = newLk 1 m := by rw [← HDD.out]; unfold newL; rw [if_pos HBB.out]; rfl
    rw [hd]
    have h := quick_law (m : Int) HBB.out (List.replicate (2 * m) 0) (by rw [List.length_replicate]; omega) (fun i => by simp [List.getD_eq_getElem?_getD, List.getElem?_replicate]; split <;> rfl)
    exact ⟨h.2.trans hEE.symm, h.1⟩)
  clear hEE
  have hwr : IntKind.i64.wrap (2 * (m : Int)) = 2 * (m : Int) := IntWalk.i64_in _ (by omega)
  have hmk : ∀ u : World, (Instr.makeSlice 26 (.int .i64 (2 * (m : Int))) (.int .i64 (2 * (m : Int)))).run Try.prog u = .ok (.slice (some ⟨u.heap.size, 0, none⟩) (2 * m) (2 * m)) (u.alloc (.cells (madeCells #[.int .i64 0] (2 * m * 1)) 3)) := fun u => by
    obtain ⟨i0, hi, hz0, hz1, hz2⟩ := infoInt
    have h := run_make (P := Try.prog) u 26 3 i0 _ Try.underlying26 hi hz0 .i64 .i64 (2 * (m : Int)) (2 * (m : Int)) (by omega) (Int.le_refl _) (by rw [hz2]; omega) (by omega)
    rw [hz1, show (2 * (m : Int)).toNat = 2 * m by omega] at h
    exact h
  have HWTwd := Lib.hid HW4.out.drew
  have HXwd := Lib.hid (Ty.rb HX4.out ((Below.refl w4.heap.size w4).drew.mono HS4.out))
  have BXwd := Lib.hid (BX4.out.below (Below.refl w4.heap.size w4).drew BX4.out.lt)
  have xc0 := BX4.out.cell 0
  have xc1' := BX4.out.cell 1
  have xc2' := BX4.out.cell 2
  simp at xc0 xc1' xc2'
  have xl := BX4.out.lt
  go_wp2_with fail
  refine wp_region_held_drew (S := fun w' => w'.cell? ⟨w2.heap.size, 0, none⟩ = some (.int .i64 DD.1) ∧ w'.cell? ⟨w2.heap.size, 1, none⟩ = some (.slice xA1 xn1 xc1) ∧ w'.cell? ⟨w2.heap.size, 2, none⟩ = some (.slice xA2 xn2 xc2)) (by kernel_rfl) ⟨xc0, xc1', xc2'⟩ (fun hHeld => ?_)
  generalize w4.drew = wd at HWTwd HXwd BXwd hHeld ⊢
  have hszw := HWTwd.out.size
  have hszx := BXwd.out.lt
  clear xc0 xc1' xc2' xl
  refine wpAnyH_take (i := 0) (v := ?vz1_0) rfl (by kernel_rfl) (by kernel_rfl) (by kernel_rfl) (fun _ _ _ h => h) (Or.inl ⟨by rfl, ?hyz1_0⟩) (by assumption) ?restz1_0
  case hyz1_0 =>
    intro w hSw
    try dsimp only at hSw
    go_simp
    try with_reducible rfl
  try simp only [Act.put, List.setIfInBounds_toArray, List.set_cons_zero, List.set_cons_succ, List.getElem_toArray, List.getElem_cons_zero]
  refine wpAnyH_take (i := 1) (v := ?vz2_1) rfl (by kernel_rfl) (by kernel_rfl) (by kernel_rfl) (fun _ _ _ h => h) (Or.inl ⟨by rfl, ?hyz2_1⟩) (by assumption) ?restz2_1
  case hyz2_1 =>
    intro w hSw
    try dsimp only at hSw
    go_simp
    try with_reducible rfl
  try simp only [Act.put, List.setIfInBounds_toArray, List.set_cons_zero, List.set_cons_succ, List.getElem_toArray, List.getElem_cons_zero, List.getElem_cons_succ]
  refine wpAnyH_take (i := 2) (v := ?vz3_2) rfl (by kernel_rfl) (by kernel_rfl) (by kernel_rfl) (fun _ _ _ h => h) (Or.inl ⟨by rfl, ?hyz3_2⟩) (by assumption) ?restz3_2
  case hyz3_2 =>
    intro w hSw
    try dsimp only at hSw
    go_simp
    try with_reducible rfl
  try simp only [Act.put, List.setIfInBounds_toArray, List.set_cons_zero, List.set_cons_succ, List.getElem_toArray, List.getElem_cons_zero, List.getElem_cons_succ]
  refine wpAnyH_ready (rs := [3, 8]) (by kernel_rfl) (by simp) ?_
  refine (AllReadyH.cons rfl (fun K hK => ?_) (AllReadyH.cons rfl (fun K hK => ?_) AllReadyH.nil))
  · go_simp
    have HTwdm := Lib.hid (show Below wd.heap.size wd (wd.alloc (.cells (madeCells #[.int .i64 0] (2 * m)) 3)) from (Below.refl _ _).alloc (Nat.le_refl _) _)
    have HMKwdm := Lib.hid ((RowM.made (E := elI) wd (2 * m) 3 #[.int .i64 0] rfl).row (hi := wd.heap.size + 1) fun b hb => by have := List.mem_singleton.1 hb; omega)
    have hmkwdm : elI.K = 1 := rfl
    rw [hmkwdm, Nat.mul_one, show elI.z = (0 : Int) from rfl] at HMKwdm
    generalize wd.alloc (.cells (madeCells #[.int .i64 0] (2 * m)) 3) = wdm at *
    have HWTwdm := Lib.hid (HWTwd.out.trans (HTwdm.out.mono HWTwd.out.size))
    have BXwdm := Lib.hid (BXwd.out.below HTwdm.out BXwd.out.lt)
    have HXwdm := Lib.hid (Ty.below_w HXwd.out HTwdm.out)
    have hszwdm := HTwdm.out.size
    refine hK.out _ _ ⟨BXwdm.out.cell 0, BXwdm.out.cell 1, BXwdm.out.cell 2⟩ (fun hHeld => ?_)
    clear hK K
    try simp only [Act.put, List.setIfInBounds_toArray, List.set_cons_zero, List.set_cons_succ, List.getElem_toArray, List.getElem_cons_zero, List.getElem_cons_succ]
    refine wpAnyH_ready (rs := [4, 8]) (by kernel_rfl) (by simp) ?_
    refine (AllReadyH.cons rfl (fun K hK => ?_) (AllReadyH.cons rfl (fun K hK => ?_) AllReadyH.nil))
    · go_simp
      go_at_call 28
      refine (HRUN.out HXwdm.out HSM.out HMKwdm.out List.length_replicate (by omega)).mono ?_
      rw [HQK.out.1, HQK.out.2]
      rintro e wdmc ⟨a0, a1, a2, fa, rfl, hm, hf, _, hbwdmc⟩
      obtain ⟨aA1, an1, ac1, aA2, an2, ac2, hcs⟩ := tyLock_shM hm
      simp only [List.cons.injEq, and_true] at hcs
      obtain ⟨rfl, rfl, rfl⟩ := hcs
      have HTwdmc := Lib.hid hbwdmc
      have HWTwdmc := Lib.hid (HWTwdm.out.trans (HTwdmc.out.mono HWTwdm.out.size))
      have BXwdmc := Lib.hid (BXwdm.out.below HTwdmc.out BXwdm.out.lt)
      have HXwdmc := Lib.hid (Ty.below_w HXwdm.out HTwdmc.out)
      have hszwdmc := HTwdmc.out.size
      have HMKwdmc := Lib.hid (HMKwdm.out.wb HTwdmc.out)
      have HMwdmc := Lib.hid hm
      have HF := Lib.hid hf
      clear hm hf hbwdmc
      refine hK.out _ _ ⟨BXwdmc.out.cell 0, BXwdmc.out.cell 1, BXwdmc.out.cell 2⟩ (fun hHeld => ?_)
      clear hK K
      try simp only [Act.put, List.setIfInBounds_toArray, List.set_cons_zero, List.set_cons_succ, List.getElem_toArray, List.getElem_cons_zero, List.getElem_cons_succ]
      refine wpAnyH_take (i := 5) (v := ?vz4_5) rfl (by kernel_rfl) (by kernel_rfl) (by kernel_rfl) (fun _ _ _ h => h) (Or.inl ⟨by rfl, ?hyz4_5⟩) (by assumption) ?restz4_5
      case hyz4_5 =>
        intro w hSw
        try dsimp only at hSw
        go_simp
        try with_reducible rfl
      try simp only [Act.put, List.setIfInBounds_toArray, List.set_cons_zero, List.set_cons_succ, List.getElem_toArray, List.getElem_cons_zero, List.getElem_cons_succ]
      refine wpAnyH_take (i := 6) (v := ?vz5_6) rfl (by kernel_rfl) (by kernel_rfl) (by kernel_rfl) (fun _ _ _ h => h) (Or.inl ⟨by rfl, ?hyz5_6⟩) (by assumption) ?restz5_6
      case hyz5_6 =>
        intro w hSw
        try dsimp only at hSw
        go_simp
        try with_reducible rfl
      try simp only [Act.put, List.setIfInBounds_toArray, List.set_cons_zero, List.set_cons_succ, List.getElem_toArray, List.getElem_cons_zero, List.getElem_cons_succ]
      refine wpAnyH_take (i := 7) (v := ?vz6_7) rfl (by kernel_rfl) (by kernel_rfl) (by kernel_rfl) (fun _ _ _ h => h) (Or.inl ⟨by rfl, ?hyz6_7⟩) (by assumption) ?restz6_7
      case hyz6_7 =>
        intro w hSw
        try dsimp only at hSw
        go_simp
        try with_reducible rfl
      try simp only [Act.put, List.setIfInBounds_toArray, List.set_cons_zero, List.set_cons_succ, List.getElem_toArray, List.getElem_cons_zero, List.getElem_cons_succ]
      refine wpAnyH_ready (rs := [8]) (by kernel_rfl) (by simp) ?_
      refine (AllReadyH.cons rfl (fun K hK => ?_) AllReadyH.nil)
      go_simp
      have HTwdmca := Lib.hid (show Below wdmc.heap.size wdmc (wdmc.alloc (.cells #[.int .i64 0, .slice none 0 0, .slice none 0 0] 28)) from (Below.refl _ _).alloc (Nat.le_refl _) _)
      have HBwdmca := Lib.hid (Box.new wdmc #[.int .i64 0, .slice none 0 0, .slice none 0 0] 28)
      generalize wdmc.alloc (.cells #[.int .i64 0, .slice none 0 0, .slice none 0 0] 28) = wdmca at *
      have HWTwdmca := Lib.hid (HWTwdmc.out.trans (HTwdmca.out.mono HWTwdmc.out.size))
      have BXwdmca := Lib.hid (BXwdmc.out.below HTwdmca.out BXwdmc.out.lt)
      have HXwdmca := Lib.hid (Ty.below_w HXwdmc.out HTwdmca.out)
      have hszwdmca := HTwdmca.out.size
      have HMKwdmca := Lib.hid (HMKwdmc.out.wb HTwdmca.out)
      have HMwdmca := Lib.hid (Ty.mb HMwdmc.out HTwdmca.out fun b hb => (HF.out b hb).2)
      have hsbwdmca : wdmc.heap.size < wdmca.heap.size := HBwdmca.out.lt
      refine hK.out _ _ ⟨BXwdmca.out.cell 0, BXwdmca.out.cell 1, BXwdmca.out.cell 2⟩ (fun hHeld => ?_)
      clear hK K
      try simp only [Act.put, List.setIfInBounds_toArray, List.set_cons_zero, List.set_cons_succ, List.getElem_toArray, List.getElem_cons_zero, List.getElem_cons_succ]
      refine wpAnyH_ready (rs := [9]) (by kernel_rfl) (by simp) ?_
      refine (AllReadyH.cons rfl (fun K hK => ?_) AllReadyH.nil)
      have z0 := HBwdmca.out.cell 0
      have z1 := HBwdmca.out.cell 1
      have z2 := HBwdmca.out.cell 2
      have f0 := HBwdmca.out.frz 0
      have f1 := HBwdmca.out.frz 1
      have f2 := HBwdmca.out.frz 2
      have zl := HBwdmca.out.lt
      simp at z0 z1 z2
      go_simp
      have HMz := Lib.hid (tyLock.mframe (tyLock.mframe (tyLock.mframe HMwdmca.out fun b hb => heap_setCell_other _ ⟨wdmc.heap.size, 0, none⟩ b (.int .i64 EE.1) (by have h := HF.out b hb; show b ≠ wdmc.heap.size; omega)) fun b hb => heap_setCell_other _ ⟨wdmc.heap.size, 1, none⟩ b (.slice aA1 an1 ac1) (by have h := HF.out b hb; show b ≠ wdmc.heap.size; omega)) fun b hb => heap_setCell_other _ ⟨wdmc.heap.size, 2, none⟩ b (.slice aA2 an2 ac2) (by have h := HF.out b hb; show b ≠ wdmc.heap.size; omega))
      have HBz := Lib.hid (show Box (((wdmca.setCell ⟨wdmc.heap.size, 0, none⟩ (.int .i64 EE.1)).setCell ⟨wdmc.heap.size, 1, none⟩ (.slice aA1 an1 ac1)).setCell ⟨wdmc.heap.size, 2, none⟩ (.slice aA2 an2 ac2)) wdmc.heap.size #[.int .i64 EE.1, .slice aA1 an1 ac1, .slice aA2 an2 ac2] 28 by have h := (((HBwdmca.out.set 0 (.int .i64 EE.1)).set 1 (.slice aA1 an1 ac1)).set 2 (.slice aA2 an2 ac2)); simpa using h)
      have BXz := Lib.hid (((BXwdmca.out.other (a := ⟨wdmc.heap.size, 0, none⟩) (by show w2.heap.size ≠ wdmc.heap.size; omega) (.int .i64 EE.1)).other (a := ⟨wdmc.heap.size, 1, none⟩) (by show w2.heap.size ≠ wdmc.heap.size; omega) (.slice aA1 an1 ac1)).other (a := ⟨wdmc.heap.size, 2, none⟩) (by show w2.heap.size ≠ wdmc.heap.size; omega) (.slice aA2 an2 ac2))
      have HWTz := Lib.hid (((HWTwdmca.out.setCell (p := ⟨wdmc.heap.size, 0, none⟩) (by show w.heap.size ≤ wdmc.heap.size; omega) (.int .i64 EE.1)).setCell (p := ⟨wdmc.heap.size, 1, none⟩) (by show w.heap.size ≤ wdmc.heap.size; omega) (.slice aA1 an1 ac1)).setCell (p := ⟨wdmc.heap.size, 2, none⟩) (by show w.heap.size ≤ wdmc.heap.size; omega) (.slice aA2 an2 ac2))
      have HFz := Lib.hid (fun b (hb : b ∈ fa) => show b < ((((wdmca.setCell ⟨wdmc.heap.size, 0, none⟩ (.int .i64 EE.1)).setCell ⟨wdmc.heap.size, 1, none⟩ (.slice aA1 an1 ac1)).setCell ⟨wdmc.heap.size, 2, none⟩ (.slice aA2 an2 ac2))).heap.size by have h := HF.out b hb; simp only [World.size_setCell]; omega)
      clear z0 z1 z2 f0 f1 f2 zl
      generalize (((wdmca.setCell ⟨wdmc.heap.size, 0, none⟩ (.int .i64 EE.1)).setCell ⟨wdmc.heap.size, 1, none⟩ (.slice aA1 an1 ac1)).setCell ⟨wdmc.heap.size, 2, none⟩ (.slice aA2 an2 ac2)) = wz at HMz HBz BXz HWTz HFz ⊢
      refine hK.out _ _ ⟨BXz.out.cell 0, BXz.out.cell 1, BXz.out.cell 2⟩ (fun hHeld => ?_)
      clear hK K
      try simp only [Act.put, List.setIfInBounds_toArray, List.set_cons_zero, List.set_cons_succ, List.getElem_toArray, List.getElem_cons_zero, List.getElem_cons_succ]
      refine wpAnyH_take (i := 10) (v := ?vz7_10) rfl (by kernel_rfl) (by kernel_rfl) (by kernel_rfl) (fun _ _ _ h => h) (Or.inl ⟨by rfl, ?hyz7_10⟩) (by assumption) ?restz7_10
      case hyz7_10 =>
        intro w hSw
        try dsimp only at hSw
        go_simp
        try with_reducible rfl
      try simp only [Act.put, List.setIfInBounds_toArray, List.set_cons_zero, List.set_cons_succ, List.getElem_toArray, List.getElem_cons_zero, List.getElem_cons_succ]
      refine wpAnyH_done (by kernel_rfl) ?_ _
      obtain ⟨A9, n9, c9, A8, n8, c8, hcs, ⟨hl, _, hr⟩, _⟩ := tyLock_R (tyLock.mr HMz.out HFz.out)
      simp only [List.cons.injEq, Value.slice.injEq, and_true, true_and] at hcs
      obtain ⟨⟨rfl, rfl, rfl⟩, rfl, rfl, rfl⟩ := hcs
      have hn1 : an1 = 1 := by rw [← hl, HEE.out]; rfl
      subst hn1
      obtain ⟨b, o, rfl, hblt, hc⟩ := rowL hr (by omega)
      obtain ⟨c0, c1, c2, c3⟩ := hc 0 (by omega)
      have he : EE.2.1.getD 0 thZ = ⟨0, 0, 0, false⟩ := by rw [HEE.out]; rfl
      have he0 : EE.1 = 0 := by rw [HEE.out]; rfl
      rw [he] at c0 c1 c2 c3
      dsimp only at c0 c1 c2 c3
      rw [show o + 0 * 4 = o from by omega] at c0 c1 c2 c3
      have z0 := HBz.out.cell 0
      have z1 := HBz.out.cell 1
      have z2 := HBz.out.cell 2
      have zl := HBz.out.lt
      simp at z0 z1 z2
      rw [he0] at z0
      clear hr hl he he0 hc hHeld
      go_wp2_with fail
      go_ret
      exact ⟨rfl, HWTz.out⟩
    · go_simp
      have HTwdma := Lib.hid (show Below wdm.heap.size wdm (wdm.alloc (.cells #[.int .i64 0, .slice none 0 0, .slice none 0 0] 28)) from (Below.refl _ _).alloc (Nat.le_refl _) _)
      have HBwdma := Lib.hid (Box.new wdm #[.int .i64 0, .slice none 0 0, .slice none 0 0] 28)
      generalize wdm.alloc (.cells #[.int .i64 0, .slice none 0 0, .slice none 0 0] 28) = wdma at *
      have HWTwdma := Lib.hid (HWTwdm.out.trans (HTwdma.out.mono HWTwdm.out.size))
      have BXwdma := Lib.hid (BXwdm.out.below HTwdma.out BXwdm.out.lt)
      have HXwdma := Lib.hid (Ty.below_w HXwdm.out HTwdma.out)
      have hszwdma := HTwdma.out.size
      have HMKwdma := Lib.hid (HMKwdm.out.wb HTwdma.out)
      have hsbwdma : wdm.heap.size < wdma.heap.size := HBwdma.out.lt
      refine hK.out _ _ ⟨BXwdma.out.cell 0, BXwdma.out.cell 1, BXwdma.out.cell 2⟩ (fun hHeld => ?_)
      clear hK K
      try simp only [Act.put, List.setIfInBounds_toArray, List.set_cons_zero, List.set_cons_succ, List.getElem_toArray, List.getElem_cons_zero, List.getElem_cons_succ]
      refine wpAnyH_ready (rs := [4]) (by kernel_rfl) (by simp) ?_
      refine (AllReadyH.cons rfl (fun K hK => ?_) AllReadyH.nil)
      go_simp
      go_at_call 28
      refine (HRUN.out HXwdma.out HSM.out HMKwdma.out List.length_replicate (by omega)).mono ?_
      rw [HQK.out.1, HQK.out.2]
      rintro e wdmac ⟨a0, a1, a2, fa, rfl, hm, hf, _, hbwdmac⟩
      obtain ⟨aA1, an1, ac1, aA2, an2, ac2, hcs⟩ := tyLock_shM hm
      simp only [List.cons.injEq, and_true] at hcs
      obtain ⟨rfl, rfl, rfl⟩ := hcs
      have HTwdmac := Lib.hid hbwdmac
      have HWTwdmac := Lib.hid (HWTwdma.out.trans (HTwdmac.out.mono HWTwdma.out.size))
      have BXwdmac := Lib.hid (BXwdma.out.below HTwdmac.out BXwdma.out.lt)
      have HXwdmac := Lib.hid (Ty.below_w HXwdma.out HTwdmac.out)
      have hszwdmac := HTwdmac.out.size
      have HMKwdmac := Lib.hid (HMKwdma.out.wb HTwdmac.out)
      have HBwdmac := Lib.hid (HBwdma.out.below HTwdmac.out HBwdma.out.lt)
      have HMwdmac := Lib.hid hm
      have HF := Lib.hid hf
      clear hm hf hbwdmac
      refine hK.out _ _ ⟨BXwdmac.out.cell 0, BXwdmac.out.cell 1, BXwdmac.out.cell 2⟩ (fun hHeld => ?_)
      clear hK K
      try simp only [Act.put, List.setIfInBounds_toArray, List.set_cons_zero, List.set_cons_succ, List.getElem_toArray, List.getElem_cons_zero, List.getElem_cons_succ]
      refine wpAnyH_take (i := 5) (v := ?vz8_5) rfl (by kernel_rfl) (by kernel_rfl) (by kernel_rfl) (fun _ _ _ h => h) (Or.inl ⟨by rfl, ?hyz8_5⟩) (by assumption) ?restz8_5
      case hyz8_5 =>
        intro w hSw
        try dsimp only at hSw
        go_simp
        try with_reducible rfl
      try simp only [Act.put, List.setIfInBounds_toArray, List.set_cons_zero, List.set_cons_succ, List.getElem_toArray, List.getElem_cons_zero, List.getElem_cons_succ]
      refine wpAnyH_take (i := 6) (v := ?vz9_6) rfl (by kernel_rfl) (by kernel_rfl) (by kernel_rfl) (fun _ _ _ h => h) (Or.inl ⟨by rfl, ?hyz9_6⟩) (by assumption) ?restz9_6
      case hyz9_6 =>
        intro w hSw
        try dsimp only at hSw
        go_simp
        try with_reducible rfl
      try simp only [Act.put, List.setIfInBounds_toArray, List.set_cons_zero, List.set_cons_succ, List.getElem_toArray, List.getElem_cons_zero, List.getElem_cons_succ]
      refine wpAnyH_take (i := 7) (v := ?vz10_7) rfl (by kernel_rfl) (by kernel_rfl) (by kernel_rfl) (fun _ _ _ h => h) (Or.inl ⟨by rfl, ?hyz10_7⟩) (by assumption) ?restz10_7
      case hyz10_7 =>
        intro w hSw
        try dsimp only at hSw
        go_simp
        try with_reducible rfl
      try simp only [Act.put, List.setIfInBounds_toArray, List.set_cons_zero, List.set_cons_succ, List.getElem_toArray, List.getElem_cons_zero, List.getElem_cons_succ]
      refine wpAnyH_ready (rs := [9]) (by kernel_rfl) (by simp) ?_
      refine (AllReadyH.cons rfl (fun K hK => ?_) AllReadyH.nil)
      have z0 := HBwdmac.out.cell 0
      have z1 := HBwdmac.out.cell 1
      have z2 := HBwdmac.out.cell 2
      have f0 := HBwdmac.out.frz 0
      have f1 := HBwdmac.out.frz 1
      have f2 := HBwdmac.out.frz 2
      have zl := HBwdmac.out.lt
      simp at z0 z1 z2
      go_simp
      have HMz := Lib.hid (tyLock.mframe (tyLock.mframe (tyLock.mframe HMwdmac.out fun b hb => heap_setCell_other _ ⟨wdm.heap.size, 0, none⟩ b (.int .i64 EE.1) (by have h := HF.out b hb; show b ≠ wdm.heap.size; omega)) fun b hb => heap_setCell_other _ ⟨wdm.heap.size, 1, none⟩ b (.slice aA1 an1 ac1) (by have h := HF.out b hb; show b ≠ wdm.heap.size; omega)) fun b hb => heap_setCell_other _ ⟨wdm.heap.size, 2, none⟩ b (.slice aA2 an2 ac2) (by have h := HF.out b hb; show b ≠ wdm.heap.size; omega))
      have HBz := Lib.hid (show Box (((wdmac.setCell ⟨wdm.heap.size, 0, none⟩ (.int .i64 EE.1)).setCell ⟨wdm.heap.size, 1, none⟩ (.slice aA1 an1 ac1)).setCell ⟨wdm.heap.size, 2, none⟩ (.slice aA2 an2 ac2)) wdm.heap.size #[.int .i64 EE.1, .slice aA1 an1 ac1, .slice aA2 an2 ac2] 28 by have h := (((HBwdmac.out.set 0 (.int .i64 EE.1)).set 1 (.slice aA1 an1 ac1)).set 2 (.slice aA2 an2 ac2)); simpa using h)
      have BXz := Lib.hid (((BXwdmac.out.other (a := ⟨wdm.heap.size, 0, none⟩) (by show w2.heap.size ≠ wdm.heap.size; omega) (.int .i64 EE.1)).other (a := ⟨wdm.heap.size, 1, none⟩) (by show w2.heap.size ≠ wdm.heap.size; omega) (.slice aA1 an1 ac1)).other (a := ⟨wdm.heap.size, 2, none⟩) (by show w2.heap.size ≠ wdm.heap.size; omega) (.slice aA2 an2 ac2))
      have HWTz := Lib.hid (((HWTwdmac.out.setCell (p := ⟨wdm.heap.size, 0, none⟩) (by show w.heap.size ≤ wdm.heap.size; omega) (.int .i64 EE.1)).setCell (p := ⟨wdm.heap.size, 1, none⟩) (by show w.heap.size ≤ wdm.heap.size; omega) (.slice aA1 an1 ac1)).setCell (p := ⟨wdm.heap.size, 2, none⟩) (by show w.heap.size ≤ wdm.heap.size; omega) (.slice aA2 an2 ac2))
      have HFz := Lib.hid (fun b (hb : b ∈ fa) => show b < ((((wdmac.setCell ⟨wdm.heap.size, 0, none⟩ (.int .i64 EE.1)).setCell ⟨wdm.heap.size, 1, none⟩ (.slice aA1 an1 ac1)).setCell ⟨wdm.heap.size, 2, none⟩ (.slice aA2 an2 ac2))).heap.size by have h := HF.out b hb; simp only [World.size_setCell]; omega)
      clear z0 z1 z2 f0 f1 f2 zl
      generalize (((wdmac.setCell ⟨wdm.heap.size, 0, none⟩ (.int .i64 EE.1)).setCell ⟨wdm.heap.size, 1, none⟩ (.slice aA1 an1 ac1)).setCell ⟨wdm.heap.size, 2, none⟩ (.slice aA2 an2 ac2)) = wz at HMz HBz BXz HWTz HFz ⊢
      refine hK.out _ _ ⟨BXz.out.cell 0, BXz.out.cell 1, BXz.out.cell 2⟩ (fun hHeld => ?_)
      clear hK K
      try simp only [Act.put, List.setIfInBounds_toArray, List.set_cons_zero, List.set_cons_succ, List.getElem_toArray, List.getElem_cons_zero, List.getElem_cons_succ]
      refine wpAnyH_take (i := 10) (v := ?vz11_10) rfl (by kernel_rfl) (by kernel_rfl) (by kernel_rfl) (fun _ _ _ h => h) (Or.inl ⟨by rfl, ?hyz11_10⟩) (by assumption) ?restz11_10
      case hyz11_10 =>
        intro w hSw
        try dsimp only at hSw
        go_simp
        try with_reducible rfl
      try simp only [Act.put, List.setIfInBounds_toArray, List.set_cons_zero, List.set_cons_succ, List.getElem_toArray, List.getElem_cons_zero, List.getElem_cons_succ]
      refine wpAnyH_done (by kernel_rfl) ?_ _
      obtain ⟨A9, n9, c9, A8, n8, c8, hcs, ⟨hl, _, hr⟩, _⟩ := tyLock_R (tyLock.mr HMz.out HFz.out)
      simp only [List.cons.injEq, Value.slice.injEq, and_true, true_and] at hcs
      obtain ⟨⟨rfl, rfl, rfl⟩, rfl, rfl, rfl⟩ := hcs
      have hn1 : an1 = 1 := by rw [← hl, HEE.out]; rfl
      subst hn1
      obtain ⟨b, o, rfl, hblt, hc⟩ := rowL hr (by omega)
      obtain ⟨c0, c1, c2, c3⟩ := hc 0 (by omega)
      have he : EE.2.1.getD 0 thZ = ⟨0, 0, 0, false⟩ := by rw [HEE.out]; rfl
      have he0 : EE.1 = 0 := by rw [HEE.out]; rfl
      rw [he] at c0 c1 c2 c3
      dsimp only at c0 c1 c2 c3
      rw [show o + 0 * 4 = o from by omega] at c0 c1 c2 c3
      have z0 := HBz.out.cell 0
      have z1 := HBz.out.cell 1
      have z2 := HBz.out.cell 2
      have zl := HBz.out.lt
      simp at z0 z1 z2
      rw [he0] at z0
      clear hr hl he he0 hc hHeld
      go_wp2_with fail
      go_ret
      exact ⟨rfl, HWTz.out⟩
  · go_simp
    have HTwda := Lib.hid (show Below wd.heap.size wd (wd.alloc (.cells #[.int .i64 0, .slice none 0 0, .slice none 0 0] 28)) from (Below.refl _ _).alloc (Nat.le_refl _) _)
    have HBwda := Lib.hid (Box.new wd #[.int .i64 0, .slice none 0 0, .slice none 0 0] 28)
    generalize wd.alloc (.cells #[.int .i64 0, .slice none 0 0, .slice none 0 0] 28) = wda at *
    have HWTwda := Lib.hid (HWTwd.out.trans (HTwda.out.mono HWTwd.out.size))
    have BXwda := Lib.hid (BXwd.out.below HTwda.out BXwd.out.lt)
    have HXwda := Lib.hid (Ty.below_w HXwd.out HTwda.out)
    have hszwda := HTwda.out.size
    have hsbwda : wd.heap.size < wda.heap.size := HBwda.out.lt
    refine hK.out _ _ ⟨BXwda.out.cell 0, BXwda.out.cell 1, BXwda.out.cell 2⟩ (fun hHeld => ?_)
    clear hK K
    try simp only [Act.put, List.setIfInBounds_toArray, List.set_cons_zero, List.set_cons_succ, List.getElem_toArray, List.getElem_cons_zero, List.getElem_cons_succ]
    refine wpAnyH_ready (rs := [3]) (by kernel_rfl) (by simp) ?_
    refine (AllReadyH.cons rfl (fun K hK => ?_) AllReadyH.nil)
    go_simp
    have HTwdam := Lib.hid (show Below wda.heap.size wda (wda.alloc (.cells (madeCells #[.int .i64 0] (2 * m)) 3)) from (Below.refl _ _).alloc (Nat.le_refl _) _)
    have HMKwdam := Lib.hid ((RowM.made (E := elI) wda (2 * m) 3 #[.int .i64 0] rfl).row (hi := wda.heap.size + 1) fun b hb => by have := List.mem_singleton.1 hb; omega)
    have hmkwdam : elI.K = 1 := rfl
    rw [hmkwdam, Nat.mul_one, show elI.z = (0 : Int) from rfl] at HMKwdam
    generalize wda.alloc (.cells (madeCells #[.int .i64 0] (2 * m)) 3) = wdam at *
    have HWTwdam := Lib.hid (HWTwda.out.trans (HTwdam.out.mono HWTwda.out.size))
    have BXwdam := Lib.hid (BXwda.out.below HTwdam.out BXwda.out.lt)
    have HXwdam := Lib.hid (Ty.below_w HXwda.out HTwdam.out)
    have hszwdam := HTwdam.out.size
    have HBwdam := Lib.hid (HBwda.out.below HTwdam.out HBwda.out.lt)
    refine hK.out _ _ ⟨BXwdam.out.cell 0, BXwdam.out.cell 1, BXwdam.out.cell 2⟩ (fun hHeld => ?_)
    clear hK K
    try simp only [Act.put, List.setIfInBounds_toArray, List.set_cons_zero, List.set_cons_succ, List.getElem_toArray, List.getElem_cons_zero, List.getElem_cons_succ]
    refine wpAnyH_ready (rs := [4]) (by kernel_rfl) (by simp) ?_
    refine (AllReadyH.cons rfl (fun K hK => ?_) AllReadyH.nil)
    go_simp
    go_at_call 28
    refine (HRUN.out HXwdam.out HSM.out HMKwdam.out List.length_replicate (by omega)).mono ?_
    rw [HQK.out.1, HQK.out.2]
    rintro e wdamc ⟨a0, a1, a2, fa, rfl, hm, hf, _, hbwdamc⟩
    obtain ⟨aA1, an1, ac1, aA2, an2, ac2, hcs⟩ := tyLock_shM hm
    simp only [List.cons.injEq, and_true] at hcs
    obtain ⟨rfl, rfl, rfl⟩ := hcs
    have HTwdamc := Lib.hid hbwdamc
    have HWTwdamc := Lib.hid (HWTwdam.out.trans (HTwdamc.out.mono HWTwdam.out.size))
    have BXwdamc := Lib.hid (BXwdam.out.below HTwdamc.out BXwdam.out.lt)
    have HXwdamc := Lib.hid (Ty.below_w HXwdam.out HTwdamc.out)
    have hszwdamc := HTwdamc.out.size
    have HMKwdamc := Lib.hid (HMKwdam.out.wb HTwdamc.out)
    have HBwdamc := Lib.hid (HBwdam.out.below HTwdamc.out HBwdam.out.lt)
    have HMwdamc := Lib.hid hm
    have HF := Lib.hid hf
    clear hm hf hbwdamc
    refine hK.out _ _ ⟨BXwdamc.out.cell 0, BXwdamc.out.cell 1, BXwdamc.out.cell 2⟩ (fun hHeld => ?_)
    clear hK K
    try simp only [Act.put, List.setIfInBounds_toArray, List.set_cons_zero, List.set_cons_succ, List.getElem_toArray, List.getElem_cons_zero, List.getElem_cons_succ]
    refine wpAnyH_take (i := 5) (v := ?vz12_5) rfl (by kernel_rfl) (by kernel_rfl) (by kernel_rfl) (fun _ _ _ h => h) (Or.inl ⟨by rfl, ?hyz12_5⟩) (by assumption) ?restz12_5
    case hyz12_5 =>
      intro w hSw
      try dsimp only at hSw
      go_simp
      try with_reducible rfl
    try simp only [Act.put, List.setIfInBounds_toArray, List.set_cons_zero, List.set_cons_succ, List.getElem_toArray, List.getElem_cons_zero, List.getElem_cons_succ]
    refine wpAnyH_take (i := 6) (v := ?vz13_6) rfl (by kernel_rfl) (by kernel_rfl) (by kernel_rfl) (fun _ _ _ h => h) (Or.inl ⟨by rfl, ?hyz13_6⟩) (by assumption) ?restz13_6
    case hyz13_6 =>
      intro w hSw
      try dsimp only at hSw
      go_simp
      try with_reducible rfl
    try simp only [Act.put, List.setIfInBounds_toArray, List.set_cons_zero, List.set_cons_succ, List.getElem_toArray, List.getElem_cons_zero, List.getElem_cons_succ]
    refine wpAnyH_take (i := 7) (v := ?vz14_7) rfl (by kernel_rfl) (by kernel_rfl) (by kernel_rfl) (fun _ _ _ h => h) (Or.inl ⟨by rfl, ?hyz14_7⟩) (by assumption) ?restz14_7
    case hyz14_7 =>
      intro w hSw
      try dsimp only at hSw
      go_simp
      try with_reducible rfl
    try simp only [Act.put, List.setIfInBounds_toArray, List.set_cons_zero, List.set_cons_succ, List.getElem_toArray, List.getElem_cons_zero, List.getElem_cons_succ]
    refine wpAnyH_ready (rs := [9]) (by kernel_rfl) (by simp) ?_
    refine (AllReadyH.cons rfl (fun K hK => ?_) AllReadyH.nil)
    have z0 := HBwdamc.out.cell 0
    have z1 := HBwdamc.out.cell 1
    have z2 := HBwdamc.out.cell 2
    have f0 := HBwdamc.out.frz 0
    have f1 := HBwdamc.out.frz 1
    have f2 := HBwdamc.out.frz 2
    have zl := HBwdamc.out.lt
    simp at z0 z1 z2
    go_simp
    have HMz := Lib.hid (tyLock.mframe (tyLock.mframe (tyLock.mframe HMwdamc.out fun b hb => heap_setCell_other _ ⟨wd.heap.size, 0, none⟩ b (.int .i64 EE.1) (by have h := HF.out b hb; show b ≠ wd.heap.size; omega)) fun b hb => heap_setCell_other _ ⟨wd.heap.size, 1, none⟩ b (.slice aA1 an1 ac1) (by have h := HF.out b hb; show b ≠ wd.heap.size; omega)) fun b hb => heap_setCell_other _ ⟨wd.heap.size, 2, none⟩ b (.slice aA2 an2 ac2) (by have h := HF.out b hb; show b ≠ wd.heap.size; omega))
    have HBz := Lib.hid (show Box (((wdamc.setCell ⟨wd.heap.size, 0, none⟩ (.int .i64 EE.1)).setCell ⟨wd.heap.size, 1, none⟩ (.slice aA1 an1 ac1)).setCell ⟨wd.heap.size, 2, none⟩ (.slice aA2 an2 ac2)) wd.heap.size #[.int .i64 EE.1, .slice aA1 an1 ac1, .slice aA2 an2 ac2] 28 by have h := (((HBwdamc.out.set 0 (.int .i64 EE.1)).set 1 (.slice aA1 an1 ac1)).set 2 (.slice aA2 an2 ac2)); simpa using h)
    have BXz := Lib.hid (((BXwdamc.out.other (a := ⟨wd.heap.size, 0, none⟩) (by show w2.heap.size ≠ wd.heap.size; omega) (.int .i64 EE.1)).other (a := ⟨wd.heap.size, 1, none⟩) (by show w2.heap.size ≠ wd.heap.size; omega) (.slice aA1 an1 ac1)).other (a := ⟨wd.heap.size, 2, none⟩) (by show w2.heap.size ≠ wd.heap.size; omega) (.slice aA2 an2 ac2))
    have HWTz := Lib.hid (((HWTwdamc.out.setCell (p := ⟨wd.heap.size, 0, none⟩) (by show w.heap.size ≤ wd.heap.size; omega) (.int .i64 EE.1)).setCell (p := ⟨wd.heap.size, 1, none⟩) (by show w.heap.size ≤ wd.heap.size; omega) (.slice aA1 an1 ac1)).setCell (p := ⟨wd.heap.size, 2, none⟩) (by show w.heap.size ≤ wd.heap.size; omega) (.slice aA2 an2 ac2))
    have HFz := Lib.hid (fun b (hb : b ∈ fa) => show b < ((((wdamc.setCell ⟨wd.heap.size, 0, none⟩ (.int .i64 EE.1)).setCell ⟨wd.heap.size, 1, none⟩ (.slice aA1 an1 ac1)).setCell ⟨wd.heap.size, 2, none⟩ (.slice aA2 an2 ac2))).heap.size by have h := HF.out b hb; simp only [World.size_setCell]; omega)
    clear z0 z1 z2 f0 f1 f2 zl
    generalize (((wdamc.setCell ⟨wd.heap.size, 0, none⟩ (.int .i64 EE.1)).setCell ⟨wd.heap.size, 1, none⟩ (.slice aA1 an1 ac1)).setCell ⟨wd.heap.size, 2, none⟩ (.slice aA2 an2 ac2)) = wz at HMz HBz BXz HWTz HFz ⊢
    refine hK.out _ _ ⟨BXz.out.cell 0, BXz.out.cell 1, BXz.out.cell 2⟩ (fun hHeld => ?_)
    clear hK K
    try simp only [Act.put, List.setIfInBounds_toArray, List.set_cons_zero, List.set_cons_succ, List.getElem_toArray, List.getElem_cons_zero, List.getElem_cons_succ]
    refine wpAnyH_take (i := 10) (v := ?vz15_10) rfl (by kernel_rfl) (by kernel_rfl) (by kernel_rfl) (fun _ _ _ h => h) (Or.inl ⟨by rfl, ?hyz15_10⟩) (by assumption) ?restz15_10
    case hyz15_10 =>
      intro w hSw
      try dsimp only at hSw
      go_simp
      try with_reducible rfl
    try simp only [Act.put, List.setIfInBounds_toArray, List.set_cons_zero, List.set_cons_succ, List.getElem_toArray, List.getElem_cons_zero, List.getElem_cons_succ]
    refine wpAnyH_done (by kernel_rfl) ?_ _
    obtain ⟨A9, n9, c9, A8, n8, c8, hcs, ⟨hl, _, hr⟩, _⟩ := tyLock_R (tyLock.mr HMz.out HFz.out)
    simp only [List.cons.injEq, Value.slice.injEq, and_true, true_and] at hcs
    obtain ⟨⟨rfl, rfl, rfl⟩, rfl, rfl, rfl⟩ := hcs
    have hn1 : an1 = 1 := by rw [← hl, HEE.out]; rfl
    subst hn1
    obtain ⟨b, o, rfl, hblt, hc⟩ := rowL hr (by omega)
    obtain ⟨c0, c1, c2, c3⟩ := hc 0 (by omega)
    have he : EE.2.1.getD 0 thZ = ⟨0, 0, 0, false⟩ := by rw [HEE.out]; rfl
    have he0 : EE.1 = 0 := by rw [HEE.out]; rfl
    rw [he] at c0 c1 c2 c3
    dsimp only at c0 c1 c2 c3
    rw [show o + 0 * 4 = o from by omega] at c0 c1 c2 c3
    have z0 := HBz.out.cell 0
    have z1 := HBz.out.cell 1
    have z2 := HBz.out.cell 2
    have zl := HBz.out.lt
    simp at z0 z1 z2
    rw [he0] at z0
    clear hr hl he he0 hc hHeld
    go_wp2_with fail
    go_ret
    exact ⟨rfl, HWTz.out⟩

end
end Go.Proofs.Ytpnlmdnjpcjhjaa
