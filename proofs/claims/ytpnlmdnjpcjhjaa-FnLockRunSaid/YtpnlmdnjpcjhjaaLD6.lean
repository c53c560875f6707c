/-
  The walk of FnLockRun on drawn arguments.
-/
import Derived.Test.YtpnlmdnjpcjhjaaLDraw3
import Derived.Test.YtpnlmdnjpcjhjaaTqLock
import Derived.Test.YtpnlmdnjpcjhjaaLS7
import Derived.Test.YtpnlmdnjpcjhjaaLS6
import Derived.Deep.DeepCutAuto
namespace Go.Proofs.Ytpnlmdnjpcjhjaa
open Go.RowKit

section
variable {A : Option Addr} {n c : Nat} {w : World}
set_option maxHeartbeats 8000000 in
set_option maxRecDepth 100000 in
theorem dLockRun_walk (hOk : KOk 23) (hRun : KRun 28) {A2 : Option Addr} {n2 c2 : Nat} (hc : Code w A n) (hcap : n ≤ c) (hcap2 : c ≤ maxLen) (hd : Code w A2 n2) (_hdcap : n2 ≤ c2) (_hdcap2 : c2 ≤ maxLen) : Calls Try.prog 6 #[.slice A n c, .slice A2 n2 c2] w fun e w' => e = .returned (.bool true) ∧ Below w.heap.size w w' := by
  have hn := hc.1
  unfold maxLen at hn
  have hn2 := hd.1
  unfold maxLen at hn2
  have HCODE := Lib.hid hc
  have HMORE := Lib.hid hd
  clear hc hd
  by_cases hbig : (1048576 : Int) < n
  · go_enter Try.func6, Try.ntmps6
    go_wp2_with fail
    go_ret
    exact ⟨rfl, Below.refl _ _⟩
  by_cases hbig2 : (1048576 : Int) < n2
  · go_enter Try.func6, Try.ntmps6
    go_wp2_with fail
    go_ret
    exact ⟨rfl, Below.refl _ _⟩
  have HOK := Lib.hid hOk
  clear hOk
  have HRUN := Lib.hid hRun
  clear hRun
  have HW0 := Lib.hid (Below.refl w.heap.size w)
  go_enter Try.func6, Try.ntmps6
  have HA0 := Lib.hid (show Below w.heap.size w w from (Below.refl _ _))
  go_wp2_with fail
  refine (dDrawLockRun_any HCODE.out hcap hcap2).mono ?_
  rintro e w1 ⟨g0, d0, Al, dl, D0, fp0, O, m, co, L, rfl, hm0, hf0, hs0, hord, hb1⟩
  have HC1 := Lib.hid (HA0.out.trans (hb1.mono HA0.out.size))
  have HW1 := Lib.hid (HW0.out.trans (HC1.out.mono HW0.out.size))
  clear hb1
  have HR0_1 := Lib.hid (tyLock.mr hm0 fun b hb => (hf0 b hb).2)
  have HS0 := Lib.hid (show smallLock D0 from ⟨by omega, by omega⟩)
  have HZ0 := Lib.hid hs0
  clear hm0 hf0 hs0
  obtain ⟨n0, hn0⟩ : ∃ n0, D0.2.1.length = n0 := ⟨_, rfl⟩
  obtain ⟨nl, hnl⟩ : ∃ nl, D0.2.2.length = nl := ⟨_, rfl⟩
  obtain ⟨W0, hW0⟩ : ∃ W0, D0.1 = W0 := ⟨_, rfl⟩
  have HN0 := Lib.hid hn0
  have HN2 := Lib.hid hnl
  have HV0 := Lib.hid hW0
  rw [hn0, hnl, hW0] at HR0_1 ⊢
  rw [hn0, hnl] at HZ0
  clear hn0 hnl hW0
  obtain ⟨hor, hol, hom, hoc, _⟩ := hord
  have HOR_1 := Lib.hid hor
  have HOL := Lib.hid hol
  clear hor hol
  obtain ⟨D1, hD1⟩ : ∃ X : Lk, runL D0 L = X := ⟨_, rfl⟩
  obtain ⟨r, hr⟩ : ∃ X : Int, runN D0 L = X := ⟨_, rfl⟩
  have HD1 := Lib.hid hD1
  have HRR := Lib.hid hr
  clear hD1 hr
  have HA1 := Lib.hid (show Below w1.heap.size w1 (w1.alloc (.cells #[.int .i64 W0, .slice (some ⟨g0, 0, none⟩) n0 d0, .slice Al nl dl] 28)) from ((Below.refl _ _).alloc (Nat.le_refl _) _))
  go_wp2_with fail
  refine (HRUN.out (Ty.below_w HR0_1.out HA1.out) HS0.out (HOR_1.out.wb HA1.out) HOL.out (by omega)).mono ?_
  rintro e w2 ⟨y10, y11, y12, fq1, rfl, hm1, hf1, hs1, hb2⟩
  have HC2 := Lib.hid (HA1.out.trans (hb2.mono HA1.out.size))
  have HW2 := Lib.hid (HW1.out.trans (HC2.out.mono HW1.out.size))
  have HR0_2 := Lib.hid (Ty.below_w HR0_1.out HC2.out)
  have HOR_2 := Lib.hid (HOR_1.out.wb HC2.out)
  have C0_2 := Lib.hid ((Box.new w1 #[.int .i64 W0, .slice (some ⟨g0, 0, none⟩) n0 d0, .slice Al nl dl] 28).below hb2 (by simp only [World.size_alloc]; omega))
  clear hb2
  rw [HD1.out] at hm1 hs1
  rw [HRR.out]
  obtain ⟨E1, m1, o1, F1, q1, r1, hcs⟩ := tyLock_shM hm1
  simp only [List.cons.injEq, and_true] at hcs
  obtain ⟨rfl, rfl, rfl⟩ := hcs
  have HQ1_2 := Lib.hid (tyLock.mr hm1 fun b hb => (hf1 b hb).2)
  have HS1 := Lib.hid hs1
  clear hm1 hf1 hs1
  have HA2 := Lib.hid (show Below w2.heap.size w2 (w2.alloc (.cells #[.int .i64 (D1).1, .slice E1 m1 o1, .slice F1 q1 r1] 28)) from ((Below.refl _ _).alloc (Nat.le_refl _) _))
  have c0_c0 := C0_2.out.cell 0
  have c0_c1 := C0_2.out.cell 1
  have c0_c2 := C0_2.out.cell 2
  simp at c0_c0 c0_c1 c0_c2
  have c0_l := C0_2.out.lt
  go_wp2_with fail
  refine (lockRun_any (Ty.below_w HR0_2.out HA2.out) HS0.out (HOR_2.out.wb HA2.out) HOL.out (by omega)).mono ?_
  rintro e w3 ⟨y20, y21, y22, fq2, rfl, hm2, hf2, hs2, hb3⟩
  clear c0_c0 c0_c1 c0_c2 c0_l
  have HC3 := Lib.hid (HA2.out.trans (hb3.mono HA2.out.size))
  have HW3 := Lib.hid (HW2.out.trans (HC3.out.mono HW2.out.size))
  have HR0_3 := Lib.hid (Ty.below_w HR0_2.out HC3.out)
  have HQ1_3 := Lib.hid (Ty.below_w HQ1_2.out HC3.out)
  have C0_3 := Lib.hid (C0_2.out.below HC3.out C0_2.out.lt)
  have HOR_3 := Lib.hid (HOR_2.out.wb HC3.out)
  have X_3 := Lib.hid ((Box.new w2 #[.int .i64 (D1).1, .slice E1 m1 o1, .slice F1 q1 r1] 28).below hb3 (by simp only [World.size_alloc]; omega))
  clear hb3
  rw [HD1.out] at hm2 hs2
  rw [HRR.out]
  obtain ⟨E2, m2, o2, F2, q2, r2, hcs⟩ := tyLock_shM hm2
  simp only [List.cons.injEq, and_true] at hcs
  obtain ⟨rfl, rfl, rfl⟩ := hcs
  have HQ2_3 := Lib.hid (tyLock.mr hm2 fun b hb => (hf2 b hb).2)
  have HS2 := Lib.hid hs2
  clear hm2 hf2 hs2
  have HA3 := Lib.hid (show Below w3.heap.size w3 (w3.alloc (.cells #[.int .i64 (D1).1, .slice E2 m2 o2, .slice F2 q2 r2] 28)) from ((Below.refl _ _).alloc (Nat.le_refl _) _))
  have c0_c0 := C0_3.out.cell 0
  have c0_c1 := C0_3.out.cell 1
  have c0_c2 := C0_3.out.cell 2
  have x_c0 := X_3.out.cell 0
  have x_c1 := X_3.out.cell 1
  have x_c2 := X_3.out.cell 2
  simp at c0_c0 c0_c1 c0_c2 x_c0 x_c1 x_c2
  have c0_l := C0_3.out.lt
  have x_l := X_3.out.lt
  go_wp2_with fail
  refine (qdLock_t (Ty.below_w HQ1_3.out HA3.out) (Ty.below_w HQ2_3.out HA3.out)).mono ?_
  rintro e w4 ⟨rfl, hb4⟩
  clear c0_c0 c0_c1 c0_c2 x_c0 x_c1 x_c2 c0_l x_l
  have HC4 := Lib.hid (HA3.out.trans (hb4.mono HA3.out.size))
  have HW4 := Lib.hid (HW3.out.trans (HC4.out.mono HW3.out.size))
  have HR0_4 := Lib.hid (Ty.below_w HR0_3.out HC4.out)
  have HQ1_4 := Lib.hid (Ty.below_w HQ1_3.out HC4.out)
  have HQ2_4 := Lib.hid (Ty.below_w HQ2_3.out HC4.out)
  have C0_4 := Lib.hid (C0_3.out.below HC4.out C0_3.out.lt)
  have X_4 := Lib.hid (X_3.out.below HC4.out X_3.out.lt)
  have HOR_4 := Lib.hid (HOR_3.out.wb HC4.out)
  have Y_4 := Lib.hid ((Box.new w3 #[.int .i64 (D1).1, .slice E2 m2 o2, .slice F2 q2 r2] 28).below hb4 (by simp only [World.size_alloc]; omega))
  clear hb4
  by_cases h0 : 0 ≤ r
  case neg =>
    have h0' : r < 0 := by omega
    have h9 : decide (0 ≤ r) = false := decide_eq_false h0
    clear h0 h0'
    have HA4 := Lib.hid (show Below w4.heap.size w4 w4 from (Below.refl _ _))
    have c0_c0 := C0_4.out.cell 0
    have c0_c1 := C0_4.out.cell 1
    have c0_c2 := C0_4.out.cell 2
    have x_c0 := X_4.out.cell 0
    have x_c1 := X_4.out.cell 1
    have x_c2 := X_4.out.cell 2
    have y_c0 := Y_4.out.cell 0
    have y_c1 := Y_4.out.cell 1
    have y_c2 := Y_4.out.cell 2
    simp at c0_c0 c0_c1 c0_c2 x_c0 x_c1 x_c2 y_c0 y_c1 y_c2
    have c0_l := C0_4.out.lt
    have x_l := X_4.out.lt
    have y_l := Y_4.out.lt
    go_wp2_with fail
    go_ret
    exact ⟨rfl, HW4.out⟩
  have HLB := Lib.hid (show lkB D0 = true from by
    cases e : lkB D0
    · have h := HRR.out
      unfold runN at h
      rw [e] at h
      simp at h
      omega
    · rfl)
  have hw1 : IntKind.i64.wrap ((m : Int) + 1) = (m : Int) + 1 := IntWalk.i64_in _ (by omega)
  have hm1 : ¬ ((m : Int) + 1 = 0) := by omega
  have hq1 : (((m : Int) + 1) == 0) = false := by rw [beq_eq_false_iff_ne]; exact hm1
  obtain ⟨k, hk⟩ : ∃ k : Nat, k = n2 % (m + 1) := ⟨_, rfl⟩
  have hkm : k ≤ m := by have := Nat.mod_lt n2 (show 0 < m + 1 by omega); omega
  have hmod : (n2 : Int) % ((m : Int) + 1) = (k : Int) := by rw [hk, Int.natCast_emod, Int.natCast_add]; rfl
  have hwk : IntKind.i64.wrap (k : Int) = (k : Int) := IntWalk.i64_in _ (by omega)
  obtain ⟨l1, l2, l3, l4⟩ := run_cut (c := k) HLB.out (show k ≤ L.length by rw [HOL.out]; exact hkm)
  rw [HD1.out] at l1 l3
  rw [HRR.out] at l2
  obtain ⟨D2, hD2⟩ : ∃ X : Lk, runL D0 (L.take k) = X := ⟨_, rfl⟩
  obtain ⟨a, ha⟩ : ∃ X : Int, runN D0 (L.take k) = X := ⟨_, rfl⟩
  obtain ⟨b, hb⟩ : ∃ X : Int, runN D2 (L.drop k) = X := ⟨_, rfl⟩
  rw [hD2] at l1 l2
  rw [ha, hb] at l2
  have HD2 := Lib.hid hD2
  have HA := Lib.hid ha
  have HBv := Lib.hid hb
  have L1 := Lib.hid l1
  have L2 := Lib.hid l2
  have L3 := Lib.hid l3
  have hk0 : (0 : Int) ≤ (k : Int) := by omega
  have hkc : (k : Int) ≤ (co : Int) := by omega
  have hkm' : (k : Int) ≤ (m : Int) := by omega
  have h9 : decide (0 ≤ r) = true := decide_eq_true h0
  clear l1 l2 l3 l4 hD2 ha hb hk h0
  have HPRE := Lib.hid (show RowF elI w4 w1.heap.size (some ⟨O, 0, none⟩) k (L.take k) from fun h0 => by
    obtain ⟨b', o', e, h1, h2, h3⟩ := HOR_4.out (by omega)
    refine ⟨b', o', e, h1, h2, fun q hq r hr => ?_⟩
    have e9 : (L.take k).getD q elI.z = L.getD q elI.z := by simp only [List.getD_eq_getElem?_getD, List.getElem?_take, if_pos hq]
    rw [e9]
    exact h3 q (by omega) r hr)
  have HPRL := Lib.hid (show (L.take k).length = k from by rw [List.length_take, HOL.out]; omega)
  have c0_c0 := C0_4.out.cell 0
  have c0_c1 := C0_4.out.cell 1
  have c0_c2 := C0_4.out.cell 2
  have x_c0 := X_4.out.cell 0
  have x_c1 := X_4.out.cell 1
  have x_c2 := X_4.out.cell 2
  have y_c0 := Y_4.out.cell 0
  have y_c1 := Y_4.out.cell 1
  have y_c2 := Y_4.out.cell 2
  simp at c0_c0 c0_c1 c0_c2 x_c0 x_c1 x_c2 y_c0 y_c1 y_c2
  have c0_l := C0_4.out.lt
  have x_l := X_4.out.lt
  have y_l := Y_4.out.lt
  go_upto_region 10 with fail
  go_cut [12, 13, 14] (fun kk y v wx => kk = .int .i64 (k : Nat) ∧ ∃ (Y : Nat) (aA : Option Addr) (an ac : Nat) (bA : Option Addr) (bn bc : Nat) (fa : List Nat), y = .pointer (some ⟨Y, 0, none⟩) ∧ v = .int .i64 a ∧ Box wx Y #[.int .i64 D2.1, .slice aA an ac, .slice bA bn bc] 28 ∧ tyLock.M wx fa [.int .i64 D2.1, .slice aA an ac, .slice bA bn bc] D2 ∧ (∀ b ∈ fa, b < wx.heap.size) ∧ smallLock D2 ∧ Below w4.heap.size w4 wx)
  case first =>
    refine wp_region_held_drew (S := fun w' => w'.cell? ⟨w1.heap.size, 0, none⟩ = some (.int .i64 W0) ∧ w'.cell? ⟨w1.heap.size, 1, none⟩ = some (.slice (some ⟨g0, 0, none⟩) n0 d0) ∧ w'.cell? ⟨w1.heap.size, 2, none⟩ = some (.slice Al nl dl)) (by kernel_rfl) ⟨c0_c0, c0_c1, c0_c2⟩ (fun hHeld => ?_)
    have HTd := Lib.hid (Below.refl w4.heap.size w4).drew
    generalize w4.drew = wd at HTd hHeld ⊢
    refine wpAnyH_take (i := 0) (v := ?vp1_0) rfl (by kernel_rfl) (by kernel_rfl) (by kernel_rfl) (fun _ _ _ h => h) (Or.inl ⟨by rfl, ?hyp1_0⟩) (by assumption) ?restp1_0
    case hyp1_0 =>
      intro w hSw
      try dsimp only at hSw
      go_simp
      try with_reducible rfl
    try simp only [Act.put, List.setIfInBounds_toArray, List.set_cons_zero, List.set_cons_succ, List.getElem_toArray, List.getElem_cons_zero]
    refine wpAnyH_take (i := 1) (v := ?vp2_1) rfl (by kernel_rfl) (by kernel_rfl) (by kernel_rfl) (fun _ _ _ h => h) (Or.inl ⟨by rfl, ?hyp2_1⟩) (by assumption) ?restp2_1
    case hyp2_1 =>
      intro w hSw
      try dsimp only at hSw
      go_simp
      try with_reducible rfl
    try simp only [Act.put, List.setIfInBounds_toArray, List.set_cons_zero, List.set_cons_succ, List.getElem_toArray, List.getElem_cons_zero, List.getElem_cons_succ]
    refine wpAnyH_take (i := 2) (v := ?vp3_2) rfl (by kernel_rfl) (by kernel_rfl) (by kernel_rfl) (fun _ _ _ h => h) (Or.inl ⟨by rfl, ?hyp3_2⟩) (by assumption) ?restp3_2
    case hyp3_2 =>
      intro w hSw
      try dsimp only at hSw
      go_simp
      try with_reducible rfl
    try simp only [Act.put, List.setIfInBounds_toArray, List.set_cons_zero, List.set_cons_succ, List.getElem_toArray, List.getElem_cons_zero, List.getElem_cons_succ]
    refine wpAnyH_take (i := 3) (v := ?vp4_3) rfl (by kernel_rfl) (by kernel_rfl) (by kernel_rfl) (fun _ _ _ h => h) (Or.inl ⟨by rfl, ?hyp4_3⟩) (by assumption) ?restp4_3
    case hyp4_3 =>
      intro w hSw
      try dsimp only at hSw
      go_simp
      try with_reducible rfl
    try simp only [Act.put, List.setIfInBounds_toArray, List.set_cons_zero, List.set_cons_succ, List.getElem_toArray, List.getElem_cons_zero, List.getElem_cons_succ]
    refine wpAnyH_ready (rs := [4, 8]) (by kernel_rfl) (by simp) ?_
    refine (AllReadyH.cons rfl (fun K hK => ?_) (AllReadyH.cons rfl (fun K hK => ?_) AllReadyH.nil))
    · go_simp
      go_at_call 28
      refine (HRUN.out (Ty.below_w HR0_4.out HTd.out) HS0.out (HPRE.out.wb HTd.out) HPRL.out (by omega)).mono ?_
      rintro e wdc ⟨a0, a1, a2, fa9, rfl, hm9, hf9, hsm9, hb9⟩
      rw [HD2.out] at hm9 hsm9
      rw [HA.out]
      obtain ⟨aA1, an1, ac1, aA2, an2, ac2, hcs⟩ := tyLock_shM hm9
      simp only [List.cons.injEq, and_true] at hcs
      obtain ⟨rfl, rfl, rfl⟩ := hcs
      have HSM9 := Lib.hid hsm9
      clear hsm9
      have HTdc := Lib.hid (HTd.out.trans (hb9.mono HTd.out.size))
      have HMdc := Lib.hid hm9
      have HF := Lib.hid hf9
      have hszdc := hb9.size
      have hzzdc := HTd.out.size
      clear hm9 hf9 hb9
      refine hK.out _ _ ⟨(kc HTdc.out _ _ c0_l).trans c0_c0, (kc HTdc.out _ _ c0_l).trans c0_c1, (kc HTdc.out _ _ c0_l).trans c0_c2⟩ (fun hHeld => ?_)
      clear hK K
      try simp only [Act.put, List.setIfInBounds_toArray, List.set_cons_zero, List.set_cons_succ, List.getElem_toArray, List.getElem_cons_zero, List.getElem_cons_succ]
      refine wpAnyH_take (i := 5) (v := ?vp5_5) rfl (by kernel_rfl) (by kernel_rfl) (by kernel_rfl) (fun _ _ _ h => h) (Or.inl ⟨by rfl, ?hyp5_5⟩) (by assumption) ?restp5_5
      case hyp5_5 =>
        intro w hSw
        try dsimp only at hSw
        go_simp
        try with_reducible rfl
      try simp only [Act.put, List.setIfInBounds_toArray, List.set_cons_zero, List.set_cons_succ, List.getElem_toArray, List.getElem_cons_zero, List.getElem_cons_succ]
      refine wpAnyH_take (i := 6) (v := ?vp6_6) rfl (by kernel_rfl) (by kernel_rfl) (by kernel_rfl) (fun _ _ _ h => h) (Or.inl ⟨by rfl, ?hyp6_6⟩) (by assumption) ?restp6_6
      case hyp6_6 =>
        intro w hSw
        try dsimp only at hSw
        go_simp
        try with_reducible rfl
      try simp only [Act.put, List.setIfInBounds_toArray, List.set_cons_zero, List.set_cons_succ, List.getElem_toArray, List.getElem_cons_zero, List.getElem_cons_succ]
      refine wpAnyH_take (i := 7) (v := ?vp7_7) rfl (by kernel_rfl) (by kernel_rfl) (by kernel_rfl) (fun _ _ _ h => h) (Or.inl ⟨by rfl, ?hyp7_7⟩) (by assumption) ?restp7_7
      case hyp7_7 =>
        intro w hSw
        try dsimp only at hSw
        go_simp
        try with_reducible rfl
      try simp only [Act.put, List.setIfInBounds_toArray, List.set_cons_zero, List.set_cons_succ, List.getElem_toArray, List.getElem_cons_zero, List.getElem_cons_succ]
      refine wpAnyH_ready (rs := [8]) (by kernel_rfl) (by simp) ?_
      refine (AllReadyH.cons rfl (fun K hK => ?_) AllReadyH.nil)
      go_simp
      have HTdca := Lib.hid (HTdc.out.alloc HTdc.out.size (.cells #[.int .i64 0, .slice none 0 0, .slice none 0 0] 28))
      have HBdca := Lib.hid (Box.new wdc #[.int .i64 0, .slice none 0 0, .slice none 0 0] 28)
      have hYdca := HTdc.out.size
      have hsbdca : wdc.heap.size < (wdc.alloc (.cells #[.int .i64 0, .slice none 0 0, .slice none 0 0] 28)).heap.size := HBdca.out.lt
      have HMdca := Lib.hid (Ty.mb HMdc.out ((Below.refl _ _).alloc (Nat.le_refl _) (.cells #[.int .i64 0, .slice none 0 0, .slice none 0 0] 28)) fun b hb => (HF.out b hb).2)
      generalize wdc.alloc (.cells #[.int .i64 0, .slice none 0 0, .slice none 0 0] 28) = wdca at HTdca HBdca hsbdca HMdca ⊢
      refine hK.out _ _ ⟨(kc HTdca.out _ _ c0_l).trans c0_c0, (kc HTdca.out _ _ c0_l).trans c0_c1, (kc HTdca.out _ _ c0_l).trans c0_c2⟩ (fun hHeld => ?_)
      clear hK K
      try simp only [Act.put, List.setIfInBounds_toArray, List.set_cons_zero, List.set_cons_succ, List.getElem_toArray, List.getElem_cons_zero, List.getElem_cons_succ]
      refine wpAnyH_ready (rs := [9]) (by kernel_rfl) (by simp) ?_
      refine (AllReadyH.cons rfl (fun K hK => ?_) AllReadyH.nil)
      have z0 := HBdca.out.cell 0
      have z1 := HBdca.out.cell 1
      have z2 := HBdca.out.cell 2
      have f0 := HBdca.out.frz 0
      have f1 := HBdca.out.frz 1
      have f2 := HBdca.out.frz 2
      have zl := HBdca.out.lt
      simp at z0 z1 z2
      go_simp
      have HMz := Lib.hid (tyLock.mframe (tyLock.mframe (tyLock.mframe HMdca.out fun b hb => heap_setCell_other _ ⟨wdc.heap.size, 0, none⟩ b (.int .i64 D2.1) (by have h := HF.out b hb; show b ≠ wdc.heap.size; omega)) fun b hb => heap_setCell_other _ ⟨wdc.heap.size, 1, none⟩ b (.slice aA1 an1 ac1) (by have h := HF.out b hb; show b ≠ wdc.heap.size; omega)) fun b hb => heap_setCell_other _ ⟨wdc.heap.size, 2, none⟩ b (.slice aA2 an2 ac2) (by have h := HF.out b hb; show b ≠ wdc.heap.size; omega))
      have HBz := Lib.hid (show Box (((wdca.setCell ⟨wdc.heap.size, 0, none⟩ (.int .i64 D2.1)).setCell ⟨wdc.heap.size, 1, none⟩ (.slice aA1 an1 ac1)).setCell ⟨wdc.heap.size, 2, none⟩ (.slice aA2 an2 ac2)) wdc.heap.size #[.int .i64 D2.1, .slice aA1 an1 ac1, .slice aA2 an2 ac2] 28 by have h := (((HBdca.out.set 0 (.int .i64 D2.1)).set 1 (.slice aA1 an1 ac1)).set 2 (.slice aA2 an2 ac2)); simpa using h)
      have HTz := Lib.hid (((HTdca.out.setCell (p := ⟨wdc.heap.size, 0, none⟩) (by show _ ≤ wdc.heap.size; omega) (.int .i64 D2.1)).setCell (p := ⟨wdc.heap.size, 1, none⟩) (by show _ ≤ wdc.heap.size; omega) (.slice aA1 an1 ac1)).setCell (p := ⟨wdc.heap.size, 2, none⟩) (by show _ ≤ wdc.heap.size; omega) (.slice aA2 an2 ac2))
      have HFz := Lib.hid (fun b (hb : b ∈ fa9) => show b < ((((wdca.setCell ⟨wdc.heap.size, 0, none⟩ (.int .i64 D2.1)).setCell ⟨wdc.heap.size, 1, none⟩ (.slice aA1 an1 ac1)).setCell ⟨wdc.heap.size, 2, none⟩ (.slice aA2 an2 ac2))).heap.size by have h := HF.out b hb; simp only [World.size_setCell]; omega)
      clear z0 z1 z2 f0 f1 f2 zl
      generalize (((wdca.setCell ⟨wdc.heap.size, 0, none⟩ (.int .i64 D2.1)).setCell ⟨wdc.heap.size, 1, none⟩ (.slice aA1 an1 ac1)).setCell ⟨wdc.heap.size, 2, none⟩ (.slice aA2 an2 ac2)) = wz at HMz HBz HTz HFz ⊢
      refine hK.out _ _ ⟨(kc HTz.out _ _ c0_l).trans c0_c0, (kc HTz.out _ _ c0_l).trans c0_c1, (kc HTz.out _ _ c0_l).trans c0_c2⟩ (fun hHeld => ?_)
      clear hK K
      try simp only [Act.put, List.setIfInBounds_toArray, List.set_cons_zero, List.set_cons_succ, List.getElem_toArray, List.getElem_cons_zero, List.getElem_cons_succ]
      refine wpAnyH_take (i := 10) (v := ?vp8_10) rfl (by kernel_rfl) (by kernel_rfl) (by kernel_rfl) (fun _ _ _ h => h) (Or.inl ⟨by rfl, ?hyp8_10⟩) (by assumption) ?restp8_10
      case hyp8_10 =>
        intro w hSw
        try dsimp only at hSw
        go_simp
        try with_reducible rfl
      try simp only [Act.put, List.setIfInBounds_toArray, List.set_cons_zero, List.set_cons_succ, List.getElem_toArray, List.getElem_cons_zero, List.getElem_cons_succ]
      refine wpAnyH_done (by kernel_rfl) ?_ _
      go_wp2_with fail
      go_meet
      exact ⟨rfl, wdc.heap.size, aA1, an1, ac1, aA2, an2, ac2, fa9, rfl, rfl, HBz.out, HMz.out, HFz.out, HSM9.out, HTz.out⟩
    · go_simp
      have HTda := Lib.hid (HTd.out.alloc HTd.out.size (.cells #[.int .i64 0, .slice none 0 0, .slice none 0 0] 28))
      have HBda := Lib.hid (Box.new wd #[.int .i64 0, .slice none 0 0, .slice none 0 0] 28)
      have hYda := HTd.out.size
      have hsbda : wd.heap.size < (wd.alloc (.cells #[.int .i64 0, .slice none 0 0, .slice none 0 0] 28)).heap.size := HBda.out.lt
      generalize wd.alloc (.cells #[.int .i64 0, .slice none 0 0, .slice none 0 0] 28) = wda at HTda HBda hsbda ⊢
      refine hK.out _ _ ⟨(kc HTda.out _ _ c0_l).trans c0_c0, (kc HTda.out _ _ c0_l).trans c0_c1, (kc HTda.out _ _ c0_l).trans c0_c2⟩ (fun hHeld => ?_)
      clear hK K
      try simp only [Act.put, List.setIfInBounds_toArray, List.set_cons_zero, List.set_cons_succ, List.getElem_toArray, List.getElem_cons_zero, List.getElem_cons_succ]
      refine wpAnyH_ready (rs := [4]) (by kernel_rfl) (by simp) ?_
      refine (AllReadyH.cons rfl (fun K hK => ?_) AllReadyH.nil)
      go_simp
      go_at_call 28
      refine (HRUN.out (Ty.below_w HR0_4.out HTda.out) HS0.out (HPRE.out.wb HTda.out) HPRL.out (by omega)).mono ?_
      rintro e wdac ⟨a0, a1, a2, fa9, rfl, hm9, hf9, hsm9, hb9⟩
      rw [HD2.out] at hm9 hsm9
      rw [HA.out]
      obtain ⟨aA1, an1, ac1, aA2, an2, ac2, hcs⟩ := tyLock_shM hm9
      simp only [List.cons.injEq, and_true] at hcs
      obtain ⟨rfl, rfl, rfl⟩ := hcs
      have HSM9 := Lib.hid hsm9
      clear hsm9
      have HTdac := Lib.hid (HTda.out.trans (hb9.mono HTda.out.size))
      have HMdac := Lib.hid hm9
      have HF := Lib.hid hf9
      have HBdac := Lib.hid (HBda.out.below hb9 HBda.out.lt)
      have hszdac := hb9.size
      have hzzdac := HTda.out.size
      clear hm9 hf9 hb9
      refine hK.out _ _ ⟨(kc HTdac.out _ _ c0_l).trans c0_c0, (kc HTdac.out _ _ c0_l).trans c0_c1, (kc HTdac.out _ _ c0_l).trans c0_c2⟩ (fun hHeld => ?_)
      clear hK K
      try simp only [Act.put, List.setIfInBounds_toArray, List.set_cons_zero, List.set_cons_succ, List.getElem_toArray, List.getElem_cons_zero, List.getElem_cons_succ]
      refine wpAnyH_take (i := 5) (v := ?vp9_5) rfl (by kernel_rfl) (by kernel_rfl) (by kernel_rfl) (fun _ _ _ h => h) (Or.inl ⟨by rfl, ?hyp9_5⟩) (by assumption) ?restp9_5
      case hyp9_5 =>
        intro w hSw
        try dsimp only at hSw
        go_simp
        try with_reducible rfl
      try simp only [Act.put, List.setIfInBounds_toArray, List.set_cons_zero, List.set_cons_succ, List.getElem_toArray, List.getElem_cons_zero, List.getElem_cons_succ]
      refine wpAnyH_take (i := 6) (v := ?vp10_6) rfl (by kernel_rfl) (by kernel_rfl) (by kernel_rfl) (fun _ _ _ h => h) (Or.inl ⟨by rfl, ?hyp10_6⟩) (by assumption) ?restp10_6
      case hyp10_6 =>
        intro w hSw
        try dsimp only at hSw
        go_simp
        try with_reducible rfl
      try simp only [Act.put, List.setIfInBounds_toArray, List.set_cons_zero, List.set_cons_succ, List.getElem_toArray, List.getElem_cons_zero, List.getElem_cons_succ]
      refine wpAnyH_take (i := 7) (v := ?vp11_7) rfl (by kernel_rfl) (by kernel_rfl) (by kernel_rfl) (fun _ _ _ h => h) (Or.inl ⟨by rfl, ?hyp11_7⟩) (by assumption) ?restp11_7
      case hyp11_7 =>
        intro w hSw
        try dsimp only at hSw
        go_simp
        try with_reducible rfl
      try simp only [Act.put, List.setIfInBounds_toArray, List.set_cons_zero, List.set_cons_succ, List.getElem_toArray, List.getElem_cons_zero, List.getElem_cons_succ]
      refine wpAnyH_ready (rs := [9]) (by kernel_rfl) (by simp) ?_
      refine (AllReadyH.cons rfl (fun K hK => ?_) AllReadyH.nil)
      have z0 := HBdac.out.cell 0
      have z1 := HBdac.out.cell 1
      have z2 := HBdac.out.cell 2
      have f0 := HBdac.out.frz 0
      have f1 := HBdac.out.frz 1
      have f2 := HBdac.out.frz 2
      have zl := HBdac.out.lt
      simp at z0 z1 z2
      go_simp
      have HMz := Lib.hid (tyLock.mframe (tyLock.mframe (tyLock.mframe HMdac.out fun b hb => heap_setCell_other _ ⟨wd.heap.size, 0, none⟩ b (.int .i64 D2.1) (by have h := HF.out b hb; show b ≠ wd.heap.size; omega)) fun b hb => heap_setCell_other _ ⟨wd.heap.size, 1, none⟩ b (.slice aA1 an1 ac1) (by have h := HF.out b hb; show b ≠ wd.heap.size; omega)) fun b hb => heap_setCell_other _ ⟨wd.heap.size, 2, none⟩ b (.slice aA2 an2 ac2) (by have h := HF.out b hb; show b ≠ wd.heap.size; omega))
      have HBz := Lib.hid (show Box (((wdac.setCell ⟨wd.heap.size, 0, none⟩ (.int .i64 D2.1)).setCell ⟨wd.heap.size, 1, none⟩ (.slice aA1 an1 ac1)).setCell ⟨wd.heap.size, 2, none⟩ (.slice aA2 an2 ac2)) wd.heap.size #[.int .i64 D2.1, .slice aA1 an1 ac1, .slice aA2 an2 ac2] 28 by have h := (((HBdac.out.set 0 (.int .i64 D2.1)).set 1 (.slice aA1 an1 ac1)).set 2 (.slice aA2 an2 ac2)); simpa using h)
      have HTz := Lib.hid (((HTdac.out.setCell (p := ⟨wd.heap.size, 0, none⟩) (by show _ ≤ wd.heap.size; omega) (.int .i64 D2.1)).setCell (p := ⟨wd.heap.size, 1, none⟩) (by show _ ≤ wd.heap.size; omega) (.slice aA1 an1 ac1)).setCell (p := ⟨wd.heap.size, 2, none⟩) (by show _ ≤ wd.heap.size; omega) (.slice aA2 an2 ac2))
      have HFz := Lib.hid (fun b (hb : b ∈ fa9) => show b < ((((wdac.setCell ⟨wd.heap.size, 0, none⟩ (.int .i64 D2.1)).setCell ⟨wd.heap.size, 1, none⟩ (.slice aA1 an1 ac1)).setCell ⟨wd.heap.size, 2, none⟩ (.slice aA2 an2 ac2))).heap.size by have h := HF.out b hb; simp only [World.size_setCell]; omega)
      clear z0 z1 z2 f0 f1 f2 zl
      generalize (((wdac.setCell ⟨wd.heap.size, 0, none⟩ (.int .i64 D2.1)).setCell ⟨wd.heap.size, 1, none⟩ (.slice aA1 an1 ac1)).setCell ⟨wd.heap.size, 2, none⟩ (.slice aA2 an2 ac2)) = wz at HMz HBz HTz HFz ⊢
      refine hK.out _ _ ⟨(kc HTz.out _ _ c0_l).trans c0_c0, (kc HTz.out _ _ c0_l).trans c0_c1, (kc HTz.out _ _ c0_l).trans c0_c2⟩ (fun hHeld => ?_)
      clear hK K
      try simp only [Act.put, List.setIfInBounds_toArray, List.set_cons_zero, List.set_cons_succ, List.getElem_toArray, List.getElem_cons_zero, List.getElem_cons_succ]
      refine wpAnyH_take (i := 10) (v := ?vp12_10) rfl (by kernel_rfl) (by kernel_rfl) (by kernel_rfl) (fun _ _ _ h => h) (Or.inl ⟨by rfl, ?hyp12_10⟩) (by assumption) ?restp12_10
      case hyp12_10 =>
        intro w hSw
        try dsimp only at hSw
        go_simp
        try with_reducible rfl
      try simp only [Act.put, List.setIfInBounds_toArray, List.set_cons_zero, List.set_cons_succ, List.getElem_toArray, List.getElem_cons_zero, List.getElem_cons_succ]
      refine wpAnyH_done (by kernel_rfl) ?_ _
      go_wp2_with fail
      go_meet
      exact ⟨rfl, wd.heap.size, aA1, an1, ac1, aA2, an2, ac2, fa9, rfl, rfl, HBz.out, HMz.out, HFz.out, HSM9.out, HTz.out⟩
  case rest =>
    obtain ⟨rfl, Y3, aA3, an3, ac3, bA3, bn3, bc3, fa3, rfl, rfl, hbx, hm9, hf9, hsm9, hb9⟩ := hcut
    rename World => w5
    have HC5 := Lib.hid hb9
    have HW5 := Lib.hid (HW4.out.trans (HC5.out.mono HW4.out.size))
    have HR0_5 := Lib.hid (Ty.below_w HR0_4.out HC5.out)
    have HQ1_5 := Lib.hid (Ty.below_w HQ1_4.out HC5.out)
    have HQ2_5 := Lib.hid (Ty.below_w HQ2_4.out HC5.out)
    have C0_5 := Lib.hid (C0_4.out.below HC5.out C0_4.out.lt)
    have X_5 := Lib.hid (X_4.out.below HC5.out X_4.out.lt)
    have Y_5 := Lib.hid (Y_4.out.below HC5.out Y_4.out.lt)
    have HOR_5 := Lib.hid (HOR_4.out.wb HC5.out)
    clear c0_c0 c0_c1 c0_c2 x_c0 x_c1 x_c2 y_c0 y_c1 y_c2 c0_l x_l y_l
    clear hb9
    have HQ3_5 := Lib.hid (tyLock.mr hm9 hf9)
    have HS3 := Lib.hid hsm9
    have Z3_5 := Lib.hid hbx
    clear hbx hm9 hf9 hsm9
    have HSUL := Lib.hid (show (L.drop k).length = m - k from by rw [List.length_drop, HOL.out])
    have hr39 : 0 ≤ r ∧ r ≤ 39 := by
      have h := (run_ok (L := L) (lk_iff.1 HLB.out) (k := m)).2.2
      have h2 := HRR.out
      unfold runN at h2
      rw [if_pos HLB.out, HOL.out] at h2
      rw [h2] at h
      omega
    have c0_c0 := C0_5.out.cell 0
    have c0_c1 := C0_5.out.cell 1
    have c0_c2 := C0_5.out.cell 2
    have x_c0 := X_5.out.cell 0
    have x_c1 := X_5.out.cell 1
    have x_c2 := X_5.out.cell 2
    have y_c0 := Y_5.out.cell 0
    have y_c1 := Y_5.out.cell 1
    have y_c2 := Y_5.out.cell 2
    have z3_c0 := Z3_5.out.cell 0
    have z3_c1 := Z3_5.out.cell 1
    have z3_c2 := Z3_5.out.cell 2
    simp at c0_c0 c0_c1 c0_c2 x_c0 x_c1 x_c2 y_c0 y_c1 y_c2 z3_c0 z3_c1 z3_c2
    have c0_l := C0_5.out.lt
    have x_l := X_5.out.lt
    have y_l := Y_5.out.lt
    have z3_l := Z3_5.out.lt
    go_upto_region 11 with fail
    go_cut [15, 16] (fun y v wx => ∃ (Y : Nat) (aA : Option Addr) (an ac : Nat) (bA : Option Addr) (bn bc : Nat) (fa : List Nat), y = .pointer (some ⟨Y, 0, none⟩) ∧ v = .int .i64 b ∧ Box wx Y #[.int .i64 D1.1, .slice aA an ac, .slice bA bn bc] 28 ∧ tyLock.M wx fa [.int .i64 D1.1, .slice aA an ac, .slice bA bn bc] D1 ∧ (∀ b ∈ fa, b < wx.heap.size) ∧ smallLock D1 ∧ Below w5.heap.size w5 wx)
    case first =>
      by_cases hck : co = k
      · obtain rfl : m = k := by omega
        subst hck
        have HSUL0 := Lib.hid (show (L.drop co).length = 0 from by rw [HSUL.out, Nat.sub_self])
        refine wp_region_held_drew (S := fun w' => w'.cell? ⟨Y3, 0, none⟩ = some (.int .i64 D2.1) ∧ w'.cell? ⟨Y3, 1, none⟩ = some (.slice aA3 an3 ac3) ∧ w'.cell? ⟨Y3, 2, none⟩ = some (.slice bA3 bn3 bc3)) (by kernel_rfl) ⟨z3_c0, z3_c1, z3_c2⟩ (fun hHeld => ?_)
        have HTd := Lib.hid (Below.refl w5.heap.size w5).drew
        generalize w5.drew = wd at HTd hHeld ⊢
        refine wpAnyH_take (i := 0) (v := ?vq1_0) rfl (by kernel_rfl) (by kernel_rfl) (by kernel_rfl) (fun _ _ _ h => h) (Or.inl ⟨by rfl, ?hyq1_0⟩) (by assumption) ?restq1_0
        case hyq1_0 =>
          intro w hSw
          try dsimp only at hSw
          go_simp
          try with_reducible rfl
        try simp only [Act.put, List.setIfInBounds_toArray, List.set_cons_zero, List.set_cons_succ, List.getElem_toArray, List.getElem_cons_zero]
        refine wpAnyH_take (i := 1) (v := ?vq2_1) rfl (by kernel_rfl) (by kernel_rfl) (by kernel_rfl) (fun _ _ _ h => h) (Or.inl ⟨by rfl, ?hyq2_1⟩) (by assumption) ?restq2_1
        case hyq2_1 =>
          intro w hSw
          try dsimp only at hSw
          go_simp
          try with_reducible rfl
        try simp only [Act.put, List.setIfInBounds_toArray, List.set_cons_zero, List.set_cons_succ, List.getElem_toArray, List.getElem_cons_zero, List.getElem_cons_succ]
        refine wpAnyH_take (i := 2) (v := ?vq3_2) rfl (by kernel_rfl) (by kernel_rfl) (by kernel_rfl) (fun _ _ _ h => h) (Or.inl ⟨by rfl, ?hyq3_2⟩) (by assumption) ?restq3_2
        case hyq3_2 =>
          intro w hSw
          try dsimp only at hSw
          go_simp
          try with_reducible rfl
        try simp only [Act.put, List.setIfInBounds_toArray, List.set_cons_zero, List.set_cons_succ, List.getElem_toArray, List.getElem_cons_zero, List.getElem_cons_succ]
        refine wpAnyH_take (i := 3) (v := ?vq4_3) rfl (by kernel_rfl) (by kernel_rfl) (by kernel_rfl) (fun _ _ _ h => h) (Or.inl ⟨by rfl, ?hyq4_3⟩) (by assumption) ?restq4_3
        case hyq4_3 =>
          intro w hSw
          try dsimp only at hSw
          go_simp
          try with_reducible rfl
        try simp only [Act.put, List.setIfInBounds_toArray, List.set_cons_zero, List.set_cons_succ, List.getElem_toArray, List.getElem_cons_zero, List.getElem_cons_succ]
        refine wpAnyH_ready (rs := [4, 8]) (by kernel_rfl) (by simp) ?_
        refine (AllReadyH.cons rfl (fun K hK => ?_) (AllReadyH.cons rfl (fun K hK => ?_) AllReadyH.nil))
        · go_simp
          go_at_call 28
          refine (HRUN.out (A := some ⟨O, 0, none⟩) (m := 0) (c := 0) (L := L.drop co) (hi2 := 0) (Ty.below_w HQ3_5.out HTd.out) HS3.out (fun h => absurd h (Nat.lt_irrefl 0)) HSUL0.out (by omega)).mono ?_
          rintro e wdc ⟨a0, a1, a2, fa9, rfl, hm9, hf9, hsm9, hb9⟩
          rw [L1.out] at hm9 hsm9
          rw [HBv.out]
          obtain ⟨aA1, an1, ac1, aA2, an2, ac2, hcs⟩ := tyLock_shM hm9
          simp only [List.cons.injEq, and_true] at hcs
          obtain ⟨rfl, rfl, rfl⟩ := hcs
          have HSM9 := Lib.hid hsm9
          clear hsm9
          have HTdc := Lib.hid (HTd.out.trans (hb9.mono HTd.out.size))
          have HMdc := Lib.hid hm9
          have HF := Lib.hid hf9
          have hszdc := hb9.size
          have hzzdc := HTd.out.size
          clear hm9 hf9 hb9
          refine hK.out _ _ ⟨(kc HTdc.out _ _ z3_l).trans z3_c0, (kc HTdc.out _ _ z3_l).trans z3_c1, (kc HTdc.out _ _ z3_l).trans z3_c2⟩ (fun hHeld => ?_)
          clear hK K
          try simp only [Act.put, List.setIfInBounds_toArray, List.set_cons_zero, List.set_cons_succ, List.getElem_toArray, List.getElem_cons_zero, List.getElem_cons_succ]
          refine wpAnyH_take (i := 5) (v := ?vq5_5) rfl (by kernel_rfl) (by kernel_rfl) (by kernel_rfl) (fun _ _ _ h => h) (Or.inl ⟨by rfl, ?hyq5_5⟩) (by assumption) ?restq5_5
          case hyq5_5 =>
            intro w hSw
            try dsimp only at hSw
            go_simp
            try with_reducible rfl
          try simp only [Act.put, List.setIfInBounds_toArray, List.set_cons_zero, List.set_cons_succ, List.getElem_toArray, List.getElem_cons_zero, List.getElem_cons_succ]
          refine wpAnyH_take (i := 6) (v := ?vq6_6) rfl (by kernel_rfl) (by kernel_rfl) (by kernel_rfl) (fun _ _ _ h => h) (Or.inl ⟨by rfl, ?hyq6_6⟩) (by assumption) ?restq6_6
          case hyq6_6 =>
            intro w hSw
            try dsimp only at hSw
            go_simp
            try with_reducible rfl
          try simp only [Act.put, List.setIfInBounds_toArray, List.set_cons_zero, List.set_cons_succ, List.getElem_toArray, List.getElem_cons_zero, List.getElem_cons_succ]
          refine wpAnyH_take (i := 7) (v := ?vq7_7) rfl (by kernel_rfl) (by kernel_rfl) (by kernel_rfl) (fun _ _ _ h => h) (Or.inl ⟨by rfl, ?hyq7_7⟩) (by assumption) ?restq7_7
          case hyq7_7 =>
            intro w hSw
            try dsimp only at hSw
            go_simp
            try with_reducible rfl
          try simp only [Act.put, List.setIfInBounds_toArray, List.set_cons_zero, List.set_cons_succ, List.getElem_toArray, List.getElem_cons_zero, List.getElem_cons_succ]
          refine wpAnyH_ready (rs := [8]) (by kernel_rfl) (by simp) ?_
          refine (AllReadyH.cons rfl (fun K hK => ?_) AllReadyH.nil)
          go_simp
          have HTdca := Lib.hid (HTdc.out.alloc HTdc.out.size (.cells #[.int .i64 0, .slice none 0 0, .slice none 0 0] 28))
          have HBdca := Lib.hid (Box.new wdc #[.int .i64 0, .slice none 0 0, .slice none 0 0] 28)
          have hYdca := HTdc.out.size
          have hsbdca : wdc.heap.size < (wdc.alloc (.cells #[.int .i64 0, .slice none 0 0, .slice none 0 0] 28)).heap.size := HBdca.out.lt
          have HMdca := Lib.hid (Ty.mb HMdc.out ((Below.refl _ _).alloc (Nat.le_refl _) (.cells #[.int .i64 0, .slice none 0 0, .slice none 0 0] 28)) fun b hb => (HF.out b hb).2)
          generalize wdc.alloc (.cells #[.int .i64 0, .slice none 0 0, .slice none 0 0] 28) = wdca at HTdca HBdca hsbdca HMdca ⊢
          refine hK.out _ _ ⟨(kc HTdca.out _ _ z3_l).trans z3_c0, (kc HTdca.out _ _ z3_l).trans z3_c1, (kc HTdca.out _ _ z3_l).trans z3_c2⟩ (fun hHeld => ?_)
          clear hK K
          try simp only [Act.put, List.setIfInBounds_toArray, List.set_cons_zero, List.set_cons_succ, List.getElem_toArray, List.getElem_cons_zero, List.getElem_cons_succ]
          refine wpAnyH_ready (rs := [9]) (by kernel_rfl) (by simp) ?_
          refine (AllReadyH.cons rfl (fun K hK => ?_) AllReadyH.nil)
          have z0 := HBdca.out.cell 0
          have z1 := HBdca.out.cell 1
          have z2 := HBdca.out.cell 2
          have f0 := HBdca.out.frz 0
          have f1 := HBdca.out.frz 1
          have f2 := HBdca.out.frz 2
          have zl := HBdca.out.lt
          simp at z0 z1 z2
          go_simp
          have HMz := Lib.hid (tyLock.mframe (tyLock.mframe (tyLock.mframe HMdca.out fun b hb => heap_setCell_other _ ⟨wdc.heap.size, 0, none⟩ b (.int .i64 D1.1) (by have h := HF.out b hb; show b ≠ wdc.heap.size; omega)) fun b hb => heap_setCell_other _ ⟨wdc.heap.size, 1, none⟩ b (.slice aA1 an1 ac1) (by have h := HF.out b hb; show b ≠ wdc.heap.size; omega)) fun b hb => heap_setCell_other _ ⟨wdc.heap.size, 2, none⟩ b (.slice aA2 an2 ac2) (by have h := HF.out b hb; show b ≠ wdc.heap.size; omega))
          have HBz := Lib.hid (show Box (((wdca.setCell ⟨wdc.heap.size, 0, none⟩ (.int .i64 D1.1)).setCell ⟨wdc.heap.size, 1, none⟩ (.slice aA1 an1 ac1)).setCell ⟨wdc.heap.size, 2, none⟩ (.slice aA2 an2 ac2)) wdc.heap.size #[.int .i64 D1.1, .slice aA1 an1 ac1, .slice aA2 an2 ac2] 28 by have h := (((HBdca.out.set 0 (.int .i64 D1.1)).set 1 (.slice aA1 an1 ac1)).set 2 (.slice aA2 an2 ac2)); simpa using h)
          have HTz := Lib.hid (((HTdca.out.setCell (p := ⟨wdc.heap.size, 0, none⟩) (by show _ ≤ wdc.heap.size; omega) (.int .i64 D1.1)).setCell (p := ⟨wdc.heap.size, 1, none⟩) (by show _ ≤ wdc.heap.size; omega) (.slice aA1 an1 ac1)).setCell (p := ⟨wdc.heap.size, 2, none⟩) (by show _ ≤ wdc.heap.size; omega) (.slice aA2 an2 ac2))
          have HFz := Lib.hid (fun b (hb : b ∈ fa9) => show b < ((((wdca.setCell ⟨wdc.heap.size, 0, none⟩ (.int .i64 D1.1)).setCell ⟨wdc.heap.size, 1, none⟩ (.slice aA1 an1 ac1)).setCell ⟨wdc.heap.size, 2, none⟩ (.slice aA2 an2 ac2))).heap.size by have h := HF.out b hb; simp only [World.size_setCell]; omega)
          clear z0 z1 z2 f0 f1 f2 zl
          generalize (((wdca.setCell ⟨wdc.heap.size, 0, none⟩ (.int .i64 D1.1)).setCell ⟨wdc.heap.size, 1, none⟩ (.slice aA1 an1 ac1)).setCell ⟨wdc.heap.size, 2, none⟩ (.slice aA2 an2 ac2)) = wz at HMz HBz HTz HFz ⊢
          refine hK.out _ _ ⟨(kc HTz.out _ _ z3_l).trans z3_c0, (kc HTz.out _ _ z3_l).trans z3_c1, (kc HTz.out _ _ z3_l).trans z3_c2⟩ (fun hHeld => ?_)
          clear hK K
          try simp only [Act.put, List.setIfInBounds_toArray, List.set_cons_zero, List.set_cons_succ, List.getElem_toArray, List.getElem_cons_zero, List.getElem_cons_succ]
          refine wpAnyH_take (i := 10) (v := ?vq8_10) rfl (by kernel_rfl) (by kernel_rfl) (by kernel_rfl) (fun _ _ _ h => h) (Or.inl ⟨by rfl, ?hyq8_10⟩) (by assumption) ?restq8_10
          case hyq8_10 =>
            intro w hSw
            try dsimp only at hSw
            go_simp
            try with_reducible rfl
          try simp only [Act.put, List.setIfInBounds_toArray, List.set_cons_zero, List.set_cons_succ, List.getElem_toArray, List.getElem_cons_zero, List.getElem_cons_succ]
          refine wpAnyH_done (by kernel_rfl) ?_ _
          go_wp2_with fail
          go_meet
          exact ⟨wdc.heap.size, aA1, an1, ac1, aA2, an2, ac2, fa9, rfl, rfl, HBz.out, HMz.out, HFz.out, HSM9.out, HTz.out⟩
        · go_simp
          have HTda := Lib.hid (HTd.out.alloc HTd.out.size (.cells #[.int .i64 0, .slice none 0 0, .slice none 0 0] 28))
          have HBda := Lib.hid (Box.new wd #[.int .i64 0, .slice none 0 0, .slice none 0 0] 28)
          have hYda := HTd.out.size
          have hsbda : wd.heap.size < (wd.alloc (.cells #[.int .i64 0, .slice none 0 0, .slice none 0 0] 28)).heap.size := HBda.out.lt
          generalize wd.alloc (.cells #[.int .i64 0, .slice none 0 0, .slice none 0 0] 28) = wda at HTda HBda hsbda ⊢
          refine hK.out _ _ ⟨(kc HTda.out _ _ z3_l).trans z3_c0, (kc HTda.out _ _ z3_l).trans z3_c1, (kc HTda.out _ _ z3_l).trans z3_c2⟩ (fun hHeld => ?_)
          clear hK K
          try simp only [Act.put, List.setIfInBounds_toArray, List.set_cons_zero, List.set_cons_succ, List.getElem_toArray, List.getElem_cons_zero, List.getElem_cons_succ]
          refine wpAnyH_ready (rs := [4]) (by kernel_rfl) (by simp) ?_
          refine (AllReadyH.cons rfl (fun K hK => ?_) AllReadyH.nil)
          go_simp
          go_at_call 28
          refine (HRUN.out (A := some ⟨O, 0, none⟩) (m := 0) (c := 0) (L := L.drop co) (hi2 := 0) (Ty.below_w HQ3_5.out HTda.out) HS3.out (fun h => absurd h (Nat.lt_irrefl 0)) HSUL0.out (by omega)).mono ?_
          rintro e wdac ⟨a0, a1, a2, fa9, rfl, hm9, hf9, hsm9, hb9⟩
          rw [L1.out] at hm9 hsm9
          rw [HBv.out]
          obtain ⟨aA1, an1, ac1, aA2, an2, ac2, hcs⟩ := tyLock_shM hm9
          simp only [List.cons.injEq, and_true] at hcs
          obtain ⟨rfl, rfl, rfl⟩ := hcs
          have HSM9 := Lib.hid hsm9
          clear hsm9
          have HTdac := Lib.hid (HTda.out.trans (hb9.mono HTda.out.size))
          have HMdac := Lib.hid hm9
          have HF := Lib.hid hf9
          have HBdac := Lib.hid (HBda.out.below hb9 HBda.out.lt)
          have hszdac := hb9.size
          have hzzdac := HTda.out.size
          clear hm9 hf9 hb9
          refine hK.out _ _ ⟨(kc HTdac.out _ _ z3_l).trans z3_c0, (kc HTdac.out _ _ z3_l).trans z3_c1, (kc HTdac.out _ _ z3_l).trans z3_c2⟩ (fun hHeld => ?_)
          clear hK K
          try simp only [Act.put, List.setIfInBounds_toArray, List.set_cons_zero, List.set_cons_succ, List.getElem_toArray, List.getElem_cons_zero, List.getElem_cons_succ]
          refine wpAnyH_take (i := 5) (v := ?vq9_5) rfl (by kernel_rfl) (by kernel_rfl) (by kernel_rfl) (fun _ _ _ h => h) (Or.inl ⟨by rfl, ?hyq9_5⟩) (by assumption) ?restq9_5
          case hyq9_5 =>
            intro w hSw
            try dsimp only at hSw
            go_simp
            try with_reducible rfl
          try simp only [Act.put, List.setIfInBounds_toArray, List.set_cons_zero, List.set_cons_succ, List.getElem_toArray, List.getElem_cons_zero, List.getElem_cons_succ]
          refine wpAnyH_take (i := 6) (v := ?vq10_6) rfl (by kernel_rfl) (by kernel_rfl) (by kernel_rfl) (fun _ _ _ h => h) (Or.inl ⟨by rfl, ?hyq10_6⟩) (by assumption) ?restq10_6
          case hyq10_6 =>
            intro w hSw
            try dsimp only at hSw
            go_simp
            try with_reducible rfl
          try simp only [Act.put, List.setIfInBounds_toArray, List.set_cons_zero, List.set_cons_succ, List.getElem_toArray, List.getElem_cons_zero, List.getElem_cons_succ]
          refine wpAnyH_take (i := 7) (v := ?vq11_7) rfl (by kernel_rfl) (by kernel_rfl) (by kernel_rfl) (fun _ _ _ h => h) (Or.inl ⟨by rfl, ?hyq11_7⟩) (by assumption) ?restq11_7
          case hyq11_7 =>
            intro w hSw
            try dsimp only at hSw
            go_simp
            try with_reducible rfl
          try simp only [Act.put, List.setIfInBounds_toArray, List.set_cons_zero, List.set_cons_succ, List.getElem_toArray, List.getElem_cons_zero, List.getElem_cons_succ]
          refine wpAnyH_ready (rs := [9]) (by kernel_rfl) (by simp) ?_
          refine (AllReadyH.cons rfl (fun K hK => ?_) AllReadyH.nil)
          have z0 := HBdac.out.cell 0
          have z1 := HBdac.out.cell 1
          have z2 := HBdac.out.cell 2
          have f0 := HBdac.out.frz 0
          have f1 := HBdac.out.frz 1
          have f2 := HBdac.out.frz 2
          have zl := HBdac.out.lt
          simp at z0 z1 z2
          go_simp
          have HMz := Lib.hid (tyLock.mframe (tyLock.mframe (tyLock.mframe HMdac.out fun b hb => heap_setCell_other _ ⟨wd.heap.size, 0, none⟩ b (.int .i64 D1.1) (by have h := HF.out b hb; show b ≠ wd.heap.size; omega)) fun b hb => heap_setCell_other _ ⟨wd.heap.size, 1, none⟩ b (.slice aA1 an1 ac1) (by have h := HF.out b hb; show b ≠ wd.heap.size; omega)) fun b hb => heap_setCell_other _ ⟨wd.heap.size, 2, none⟩ b (.slice aA2 an2 ac2) (by have h := HF.out b hb; show b ≠ wd.heap.size; omega))
          have HBz := Lib.hid (show Box (((wdac.setCell ⟨wd.heap.size, 0, none⟩ (.int .i64 D1.1)).setCell ⟨wd.heap.size, 1, none⟩ (.slice aA1 an1 ac1)).setCell ⟨wd.heap.size, 2, none⟩ (.slice aA2 an2 ac2)) wd.heap.size #[.int .i64 D1.1, .slice aA1 an1 ac1, .slice aA2 an2 ac2] 28 by have h := (((HBdac.out.set 0 (.int .i64 D1.1)).set 1 (.slice aA1 an1 ac1)).set 2 (.slice aA2 an2 ac2)); simpa using h)
          have HTz := Lib.hid (((HTdac.out.setCell (p := ⟨wd.heap.size, 0, none⟩) (by show _ ≤ wd.heap.size; omega) (.int .i64 D1.1)).setCell (p := ⟨wd.heap.size, 1, none⟩) (by show _ ≤ wd.heap.size; omega) (.slice aA1 an1 ac1)).setCell (p := ⟨wd.heap.size, 2, none⟩) (by show _ ≤ wd.heap.size; omega) (.slice aA2 an2 ac2))
          have HFz := Lib.hid (fun b (hb : b ∈ fa9) => show b < ((((wdac.setCell ⟨wd.heap.size, 0, none⟩ (.int .i64 D1.1)).setCell ⟨wd.heap.size, 1, none⟩ (.slice aA1 an1 ac1)).setCell ⟨wd.heap.size, 2, none⟩ (.slice aA2 an2 ac2))).heap.size by have h := HF.out b hb; simp only [World.size_setCell]; omega)
          clear z0 z1 z2 f0 f1 f2 zl
          generalize (((wdac.setCell ⟨wd.heap.size, 0, none⟩ (.int .i64 D1.1)).setCell ⟨wd.heap.size, 1, none⟩ (.slice aA1 an1 ac1)).setCell ⟨wd.heap.size, 2, none⟩ (.slice aA2 an2 ac2)) = wz at HMz HBz HTz HFz ⊢
          refine hK.out _ _ ⟨(kc HTz.out _ _ z3_l).trans z3_c0, (kc HTz.out _ _ z3_l).trans z3_c1, (kc HTz.out _ _ z3_l).trans z3_c2⟩ (fun hHeld => ?_)
          clear hK K
          try simp only [Act.put, List.setIfInBounds_toArray, List.set_cons_zero, List.set_cons_succ, List.getElem_toArray, List.getElem_cons_zero, List.getElem_cons_succ]
          refine wpAnyH_take (i := 10) (v := ?vq12_10) rfl (by kernel_rfl) (by kernel_rfl) (by kernel_rfl) (fun _ _ _ h => h) (Or.inl ⟨by rfl, ?hyq12_10⟩) (by assumption) ?restq12_10
          case hyq12_10 =>
            intro w hSw
            try dsimp only at hSw
            go_simp
            try with_reducible rfl
          try simp only [Act.put, List.setIfInBounds_toArray, List.set_cons_zero, List.set_cons_succ, List.getElem_toArray, List.getElem_cons_zero, List.getElem_cons_succ]
          refine wpAnyH_done (by kernel_rfl) ?_ _
          go_wp2_with fail
          go_meet
          exact ⟨wd.heap.size, aA1, an1, ac1, aA2, an2, ac2, fa9, rfl, rfl, HBz.out, HMz.out, HFz.out, HSM9.out, HTz.out⟩
      · have HSUF := Lib.hid (show RowF elI w5 w1.heap.size (some ⟨O, k, none⟩) (m - k) (L.drop k) from fun h0 => by
          obtain ⟨b', o', e, h1, h2, h3⟩ := HOR_5.out (by omega)
          injection e with e
          injection e with e1 e2
          subst e1 e2
          refine ⟨O, k, rfl, h1, h2, fun q hq r hr => ?_⟩
          have e9 : (L.drop k).getD q elI.z = L.getD (k + q) elI.z := by simp only [List.getD_eq_getElem?_getD, List.getElem?_drop]
          rw [e9]
          have h4 := h3 (k + q) (by omega) r hr
          rw [show 0 + (k + q) * elI.K + r = k + q * elI.K + r from by show 0 + (k + q) * 1 + r = k + q * 1 + r; omega] at h4
          exact h4)
        refine wp_region_held_drew (S := fun w' => w'.cell? ⟨Y3, 0, none⟩ = some (.int .i64 D2.1) ∧ w'.cell? ⟨Y3, 1, none⟩ = some (.slice aA3 an3 ac3) ∧ w'.cell? ⟨Y3, 2, none⟩ = some (.slice bA3 bn3 bc3)) (by kernel_rfl) ⟨z3_c0, z3_c1, z3_c2⟩ (fun hHeld => ?_)
        have HTd := Lib.hid (Below.refl w5.heap.size w5).drew
        generalize w5.drew = wd at HTd hHeld ⊢
        refine wpAnyH_take (i := 0) (v := ?vs1_0) rfl (by kernel_rfl) (by kernel_rfl) (by kernel_rfl) (fun _ _ _ h => h) (Or.inl ⟨by rfl, ?hys1_0⟩) (by assumption) ?rests1_0
        case hys1_0 =>
          intro w hSw
          try dsimp only at hSw
          go_simp
          try with_reducible rfl
        try simp only [Act.put, List.setIfInBounds_toArray, List.set_cons_zero, List.set_cons_succ, List.getElem_toArray, List.getElem_cons_zero]
        refine wpAnyH_take (i := 1) (v := ?vs2_1) rfl (by kernel_rfl) (by kernel_rfl) (by kernel_rfl) (fun _ _ _ h => h) (Or.inl ⟨by rfl, ?hys2_1⟩) (by assumption) ?rests2_1
        case hys2_1 =>
          intro w hSw
          try dsimp only at hSw
          go_simp
          try with_reducible rfl
        try simp only [Act.put, List.setIfInBounds_toArray, List.set_cons_zero, List.set_cons_succ, List.getElem_toArray, List.getElem_cons_zero, List.getElem_cons_succ]
        refine wpAnyH_take (i := 2) (v := ?vs3_2) rfl (by kernel_rfl) (by kernel_rfl) (by kernel_rfl) (fun _ _ _ h => h) (Or.inl ⟨by rfl, ?hys3_2⟩) (by assumption) ?rests3_2
        case hys3_2 =>
          intro w hSw
          try dsimp only at hSw
          go_simp
          try with_reducible rfl
        try simp only [Act.put, List.setIfInBounds_toArray, List.set_cons_zero, List.set_cons_succ, List.getElem_toArray, List.getElem_cons_zero, List.getElem_cons_succ]
        refine wpAnyH_take (i := 3) (v := ?vs4_3) rfl (by kernel_rfl) (by kernel_rfl) (by kernel_rfl) (fun _ _ _ h => h) (Or.inl ⟨by rfl, ?hys4_3⟩) (by assumption) ?rests4_3
        case hys4_3 =>
          intro w hSw
          try dsimp only at hSw
          go_simp
          try with_reducible rfl
        try simp only [Act.put, List.setIfInBounds_toArray, List.set_cons_zero, List.set_cons_succ, List.getElem_toArray, List.getElem_cons_zero, List.getElem_cons_succ]
        refine wpAnyH_ready (rs := [4, 8]) (by kernel_rfl) (by simp) ?_
        refine (AllReadyH.cons rfl (fun K hK => ?_) (AllReadyH.cons rfl (fun K hK => ?_) AllReadyH.nil))
        · go_simp
          go_at_call 28
          refine (HRUN.out (Ty.below_w HQ3_5.out HTd.out) HS3.out (HSUF.out.wb HTd.out) HSUL.out (by omega)).mono ?_
          rintro e wdc ⟨a0, a1, a2, fa9, rfl, hm9, hf9, hsm9, hb9⟩
          rw [L1.out] at hm9 hsm9
          rw [HBv.out]
          obtain ⟨aA1, an1, ac1, aA2, an2, ac2, hcs⟩ := tyLock_shM hm9
          simp only [List.cons.injEq, and_true] at hcs
          obtain ⟨rfl, rfl, rfl⟩ := hcs
          have HSM9 := Lib.hid hsm9
          clear hsm9
          have HTdc := Lib.hid (HTd.out.trans (hb9.mono HTd.out.size))
          have HMdc := Lib.hid hm9
          have HF := Lib.hid hf9
          have hszdc := hb9.size
          have hzzdc := HTd.out.size
          clear hm9 hf9 hb9
          refine hK.out _ _ ⟨(kc HTdc.out _ _ z3_l).trans z3_c0, (kc HTdc.out _ _ z3_l).trans z3_c1, (kc HTdc.out _ _ z3_l).trans z3_c2⟩ (fun hHeld => ?_)
          clear hK K
          try simp only [Act.put, List.setIfInBounds_toArray, List.set_cons_zero, List.set_cons_succ, List.getElem_toArray, List.getElem_cons_zero, List.getElem_cons_succ]
          refine wpAnyH_take (i := 5) (v := ?vs5_5) rfl (by kernel_rfl) (by kernel_rfl) (by kernel_rfl) (fun _ _ _ h => h) (Or.inl ⟨by rfl, ?hys5_5⟩) (by assumption) ?rests5_5
          case hys5_5 =>
            intro w hSw
            try dsimp only at hSw
            go_simp
            try with_reducible rfl
          try simp only [Act.put, List.setIfInBounds_toArray, List.set_cons_zero, List.set_cons_succ, List.getElem_toArray, List.getElem_cons_zero, List.getElem_cons_succ]
          refine wpAnyH_take (i := 6) (v := ?vs6_6) rfl (by kernel_rfl) (by kernel_rfl) (by kernel_rfl) (fun _ _ _ h => h) (Or.inl ⟨by rfl, ?hys6_6⟩) (by assumption) ?rests6_6
          case hys6_6 =>
            intro w hSw
            try dsimp only at hSw
            go_simp
            try with_reducible rfl
          try simp only [Act.put, List.setIfInBounds_toArray, List.set_cons_zero, List.set_cons_succ, List.getElem_toArray, List.getElem_cons_zero, List.getElem_cons_succ]
          refine wpAnyH_take (i := 7) (v := ?vs7_7) rfl (by kernel_rfl) (by kernel_rfl) (by kernel_rfl) (fun _ _ _ h => h) (Or.inl ⟨by rfl, ?hys7_7⟩) (by assumption) ?rests7_7
          case hys7_7 =>
            intro w hSw
            try dsimp only at hSw
            go_simp
            try with_reducible rfl
          try simp only [Act.put, List.setIfInBounds_toArray, List.set_cons_zero, List.set_cons_succ, List.getElem_toArray, List.getElem_cons_zero, List.getElem_cons_succ]
          refine wpAnyH_ready (rs := [8]) (by kernel_rfl) (by simp) ?_
          refine (AllReadyH.cons rfl (fun K hK => ?_) AllReadyH.nil)
          go_simp
          have HTdca := Lib.hid (HTdc.out.alloc HTdc.out.size (.cells #[.int .i64 0, .slice none 0 0, .slice none 0 0] 28))
          have HBdca := Lib.hid (Box.new wdc #[.int .i64 0, .slice none 0 0, .slice none 0 0] 28)
          have hYdca := HTdc.out.size
          have hsbdca : wdc.heap.size < (wdc.alloc (.cells #[.int .i64 0, .slice none 0 0, .slice none 0 0] 28)).heap.size := HBdca.out.lt
          have HMdca := Lib.hid (Ty.mb HMdc.out ((Below.refl _ _).alloc (Nat.le_refl _) (.cells #[.int .i64 0, .slice none 0 0, .slice none 0 0] 28)) fun b hb => (HF.out b hb).2)
          generalize wdc.alloc (.cells #[.int .i64 0, .slice none 0 0, .slice none 0 0] 28) = wdca at HTdca HBdca hsbdca HMdca ⊢
          refine hK.out _ _ ⟨(kc HTdca.out _ _ z3_l).trans z3_c0, (kc HTdca.out _ _ z3_l).trans z3_c1, (kc HTdca.out _ _ z3_l).trans z3_c2⟩ (fun hHeld => ?_)
          clear hK K
          try simp only [Act.put, List.setIfInBounds_toArray, List.set_cons_zero, List.set_cons_succ, List.getElem_toArray, List.getElem_cons_zero, List.getElem_cons_succ]
          refine wpAnyH_ready (rs := [9]) (by kernel_rfl) (by simp) ?_
          refine (AllReadyH.cons rfl (fun K hK => ?_) AllReadyH.nil)
          have z0 := HBdca.out.cell 0
          have z1 := HBdca.out.cell 1
          have z2 := HBdca.out.cell 2
          have f0 := HBdca.out.frz 0
          have f1 := HBdca.out.frz 1
          have f2 := HBdca.out.frz 2
          have zl := HBdca.out.lt
          simp at z0 z1 z2
          go_simp
          have HMz := Lib.hid (tyLock.mframe (tyLock.mframe (tyLock.mframe HMdca.out fun b hb => heap_setCell_other _ ⟨wdc.heap.size, 0, none⟩ b (.int .i64 D1.1) (by have h := HF.out b hb; show b ≠ wdc.heap.size; omega)) fun b hb => heap_setCell_other _ ⟨wdc.heap.size, 1, none⟩ b (.slice aA1 an1 ac1) (by have h := HF.out b hb; show b ≠ wdc.heap.size; omega)) fun b hb => heap_setCell_other _ ⟨wdc.heap.size, 2, none⟩ b (.slice aA2 an2 ac2) (by have h := HF.out b hb; show b ≠ wdc.heap.size; omega))
          have HBz := Lib.hid (show Box (((wdca.setCell ⟨wdc.heap.size, 0, none⟩ (.int .i64 D1.1)).setCell ⟨wdc.heap.size, 1, none⟩ (.slice aA1 an1 ac1)).setCell ⟨wdc.heap.size, 2, none⟩ (.slice aA2 an2 ac2)) wdc.heap.size #[.int .i64 D1.1, .slice aA1 an1 ac1, .slice aA2 an2 ac2] 28 by have h := (((HBdca.out.set 0 (.int .i64 D1.1)).set 1 (.slice aA1 an1 ac1)).set 2 (.slice aA2 an2 ac2)); simpa using h)
          have HTz := Lib.hid (((HTdca.out.setCell (p := ⟨wdc.heap.size, 0, none⟩) (by show _ ≤ wdc.heap.size; omega) (.int .i64 D1.1)).setCell (p := ⟨wdc.heap.size, 1, none⟩) (by show _ ≤ wdc.heap.size; omega) (.slice aA1 an1 ac1)).setCell (p := ⟨wdc.heap.size, 2, none⟩) (by show _ ≤ wdc.heap.size; omega) (.slice aA2 an2 ac2))
          have HFz := Lib.hid (fun b (hb : b ∈ fa9) => show b < ((((wdca.setCell ⟨wdc.heap.size, 0, none⟩ (.int .i64 D1.1)).setCell ⟨wdc.heap.size, 1, none⟩ (.slice aA1 an1 ac1)).setCell ⟨wdc.heap.size, 2, none⟩ (.slice aA2 an2 ac2))).heap.size by have h := HF.out b hb; simp only [World.size_setCell]; omega)
          clear z0 z1 z2 f0 f1 f2 zl
          generalize (((wdca.setCell ⟨wdc.heap.size, 0, none⟩ (.int .i64 D1.1)).setCell ⟨wdc.heap.size, 1, none⟩ (.slice aA1 an1 ac1)).setCell ⟨wdc.heap.size, 2, none⟩ (.slice aA2 an2 ac2)) = wz at HMz HBz HTz HFz ⊢
          refine hK.out _ _ ⟨(kc HTz.out _ _ z3_l).trans z3_c0, (kc HTz.out _ _ z3_l).trans z3_c1, (kc HTz.out _ _ z3_l).trans z3_c2⟩ (fun hHeld => ?_)
          clear hK K
          try simp only [Act.put, List.setIfInBounds_toArray, List.set_cons_zero, List.set_cons_succ, List.getElem_toArray, List.getElem_cons_zero, List.getElem_cons_succ]
          refine wpAnyH_take (i := 10) (v := ?vs8_10) rfl (by kernel_rfl) (by kernel_rfl) (by kernel_rfl) (fun _ _ _ h => h) (Or.inl ⟨by rfl, ?hys8_10⟩) (by assumption) ?rests8_10
          case hys8_10 =>
            intro w hSw
            try dsimp only at hSw
            go_simp
            try with_reducible rfl
          try simp only [Act.put, List.setIfInBounds_toArray, List.set_cons_zero, List.set_cons_succ, List.getElem_toArray, List.getElem_cons_zero, List.getElem_cons_succ]
          refine wpAnyH_done (by kernel_rfl) ?_ _
          go_wp2_with fail
          go_meet
          exact ⟨wdc.heap.size, aA1, an1, ac1, aA2, an2, ac2, fa9, rfl, rfl, HBz.out, HMz.out, HFz.out, HSM9.out, HTz.out⟩
        · go_simp
          have HTda := Lib.hid (HTd.out.alloc HTd.out.size (.cells #[.int .i64 0, .slice none 0 0, .slice none 0 0] 28))
          have HBda := Lib.hid (Box.new wd #[.int .i64 0, .slice none 0 0, .slice none 0 0] 28)
          have hYda := HTd.out.size
          have hsbda : wd.heap.size < (wd.alloc (.cells #[.int .i64 0, .slice none 0 0, .slice none 0 0] 28)).heap.size := HBda.out.lt
          generalize wd.alloc (.cells #[.int .i64 0, .slice none 0 0, .slice none 0 0] 28) = wda at HTda HBda hsbda ⊢
          refine hK.out _ _ ⟨(kc HTda.out _ _ z3_l).trans z3_c0, (kc HTda.out _ _ z3_l).trans z3_c1, (kc HTda.out _ _ z3_l).trans z3_c2⟩ (fun hHeld => ?_)
          clear hK K
          try simp only [Act.put, List.setIfInBounds_toArray, List.set_cons_zero, List.set_cons_succ, List.getElem_toArray, List.getElem_cons_zero, List.getElem_cons_succ]
          refine wpAnyH_ready (rs := [4]) (by kernel_rfl) (by simp) ?_
          refine (AllReadyH.cons rfl (fun K hK => ?_) AllReadyH.nil)
          go_simp
          go_at_call 28
          refine (HRUN.out (Ty.below_w HQ3_5.out HTda.out) HS3.out (HSUF.out.wb HTda.out) HSUL.out (by omega)).mono ?_
          rintro e wdac ⟨a0, a1, a2, fa9, rfl, hm9, hf9, hsm9, hb9⟩
          rw [L1.out] at hm9 hsm9
          rw [HBv.out]
          obtain ⟨aA1, an1, ac1, aA2, an2, ac2, hcs⟩ := tyLock_shM hm9
          simp only [List.cons.injEq, and_true] at hcs
          obtain ⟨rfl, rfl, rfl⟩ := hcs
          have HSM9 := Lib.hid hsm9
          clear hsm9
          have HTdac := Lib.hid (HTda.out.trans (hb9.mono HTda.out.size))
          have HMdac := Lib.hid hm9
          have HF := Lib.hid hf9
          have HBdac := Lib.hid (HBda.out.below hb9 HBda.out.lt)
          have hszdac := hb9.size
          have hzzdac := HTda.out.size
          clear hm9 hf9 hb9
          refine hK.out _ _ ⟨(kc HTdac.out _ _ z3_l).trans z3_c0, (kc HTdac.out _ _ z3_l).trans z3_c1, (kc HTdac.out _ _ z3_l).trans z3_c2⟩ (fun hHeld => ?_)
          clear hK K
          try simp only [Act.put, List.setIfInBounds_toArray, List.set_cons_zero, List.set_cons_succ, List.getElem_toArray, List.getElem_cons_zero, List.getElem_cons_succ]
          refine wpAnyH_take (i := 5) (v := ?vs9_5) rfl (by kernel_rfl) (by kernel_rfl) (by kernel_rfl) (fun _ _ _ h => h) (Or.inl ⟨by rfl, ?hys9_5⟩) (by assumption) ?rests9_5
          case hys9_5 =>
            intro w hSw
            try dsimp only at hSw
            go_simp
            try with_reducible rfl
          try simp only [Act.put, List.setIfInBounds_toArray, List.set_cons_zero, List.set_cons_succ, List.getElem_toArray, List.getElem_cons_zero, List.getElem_cons_succ]
          refine wpAnyH_take (i := 6) (v := ?vs10_6) rfl (by kernel_rfl) (by kernel_rfl) (by kernel_rfl) (fun _ _ _ h => h) (Or.inl ⟨by rfl, ?hys10_6⟩) (by assumption) ?rests10_6
          case hys10_6 =>
            intro w hSw
            try dsimp only at hSw
            go_simp
            try with_reducible rfl
          try simp only [Act.put, List.setIfInBounds_toArray, List.set_cons_zero, List.set_cons_succ, List.getElem_toArray, List.getElem_cons_zero, List.getElem_cons_succ]
          refine wpAnyH_take (i := 7) (v := ?vs11_7) rfl (by kernel_rfl) (by kernel_rfl) (by kernel_rfl) (fun _ _ _ h => h) (Or.inl ⟨by rfl, ?hys11_7⟩) (by assumption) ?rests11_7
          case hys11_7 =>
            intro w hSw
            try dsimp only at hSw
            go_simp
            try with_reducible rfl
          try simp only [Act.put, List.setIfInBounds_toArray, List.set_cons_zero, List.set_cons_succ, List.getElem_toArray, List.getElem_cons_zero, List.getElem_cons_succ]
          refine wpAnyH_ready (rs := [9]) (by kernel_rfl) (by simp) ?_
          refine (AllReadyH.cons rfl (fun K hK => ?_) AllReadyH.nil)
          have z0 := HBdac.out.cell 0
          have z1 := HBdac.out.cell 1
          have z2 := HBdac.out.cell 2
          have f0 := HBdac.out.frz 0
          have f1 := HBdac.out.frz 1
          have f2 := HBdac.out.frz 2
          have zl := HBdac.out.lt
          simp at z0 z1 z2
          go_simp
          have HMz := Lib.hid (tyLock.mframe (tyLock.mframe (tyLock.mframe HMdac.out fun b hb => heap_setCell_other _ ⟨wd.heap.size, 0, none⟩ b (.int .i64 D1.1) (by have h := HF.out b hb; show b ≠ wd.heap.size; omega)) fun b hb => heap_setCell_other _ ⟨wd.heap.size, 1, none⟩ b (.slice aA1 an1 ac1) (by have h := HF.out b hb; show b ≠ wd.heap.size; omega)) fun b hb => heap_setCell_other _ ⟨wd.heap.size, 2, none⟩ b (.slice aA2 an2 ac2) (by have h := HF.out b hb; show b ≠ wd.heap.size; omega))
          have HBz := Lib.hid (show Box (((wdac.setCell ⟨wd.heap.size, 0, none⟩ (.int .i64 D1.1)).setCell ⟨wd.heap.size, 1, none⟩ (.slice aA1 an1 ac1)).setCell ⟨wd.heap.size, 2, none⟩ (.slice aA2 an2 ac2)) wd.heap.size #[.int .i64 D1.1, .slice aA1 an1 ac1, .slice aA2 an2 ac2] 28 by have h := (((HBdac.out.set 0 (.int .i64 D1.1)).set 1 (.slice aA1 an1 ac1)).set 2 (.slice aA2 an2 ac2)); simpa using h)
          have HTz := Lib.hid (((HTdac.out.setCell (p := ⟨wd.heap.size, 0, none⟩) (by show _ ≤ wd.heap.size; omega) (.int .i64 D1.1)).setCell (p := ⟨wd.heap.size, 1, none⟩) (by show _ ≤ wd.heap.size; omega) (.slice aA1 an1 ac1)).setCell (p := ⟨wd.heap.size, 2, none⟩) (by show _ ≤ wd.heap.size; omega) (.slice aA2 an2 ac2))
          have HFz := Lib.hid (fun b (hb : b ∈ fa9) => show b < ((((wdac.setCell ⟨wd.heap.size, 0, none⟩ (.int .i64 D1.1)).setCell ⟨wd.heap.size, 1, none⟩ (.slice aA1 an1 ac1)).setCell ⟨wd.heap.size, 2, none⟩ (.slice aA2 an2 ac2))).heap.size by have h := HF.out b hb; simp only [World.size_setCell]; omega)
          clear z0 z1 z2 f0 f1 f2 zl
          generalize (((wdac.setCell ⟨wd.heap.size, 0, none⟩ (.int .i64 D1.1)).setCell ⟨wd.heap.size, 1, none⟩ (.slice aA1 an1 ac1)).setCell ⟨wd.heap.size, 2, none⟩ (.slice aA2 an2 ac2)) = wz at HMz HBz HTz HFz ⊢
          refine hK.out _ _ ⟨(kc HTz.out _ _ z3_l).trans z3_c0, (kc HTz.out _ _ z3_l).trans z3_c1, (kc HTz.out _ _ z3_l).trans z3_c2⟩ (fun hHeld => ?_)
          clear hK K
          try simp only [Act.put, List.setIfInBounds_toArray, List.set_cons_zero, List.set_cons_succ, List.getElem_toArray, List.getElem_cons_zero, List.getElem_cons_succ]
          refine wpAnyH_take (i := 10) (v := ?vs12_10) rfl (by kernel_rfl) (by kernel_rfl) (by kernel_rfl) (fun _ _ _ h => h) (Or.inl ⟨by rfl, ?hys12_10⟩) (by assumption) ?rests12_10
          case hys12_10 =>
            intro w hSw
            try dsimp only at hSw
            go_simp
            try with_reducible rfl
          try simp only [Act.put, List.setIfInBounds_toArray, List.set_cons_zero, List.set_cons_succ, List.getElem_toArray, List.getElem_cons_zero, List.getElem_cons_succ]
          refine wpAnyH_done (by kernel_rfl) ?_ _
          go_wp2_with fail
          go_meet
          exact ⟨wd.heap.size, aA1, an1, ac1, aA2, an2, ac2, fa9, rfl, rfl, HBz.out, HMz.out, HFz.out, HSM9.out, HTz.out⟩
    case rest =>
      obtain ⟨Y4, aA4, an4, ac4, bA4, bn4, bc4, fa4, rfl, rfl, hbx, hm9, hf9, hsm9, hb9⟩ := hcut
      rename World => w6
      have HC6 := Lib.hid hb9
      have HW6 := Lib.hid (HW5.out.trans (HC6.out.mono HW5.out.size))
      have HR0_6 := Lib.hid (Ty.below_w HR0_5.out HC6.out)
      have HQ1_6 := Lib.hid (Ty.below_w HQ1_5.out HC6.out)
      have HQ2_6 := Lib.hid (Ty.below_w HQ2_5.out HC6.out)
      have HQ3_6 := Lib.hid (Ty.below_w HQ3_5.out HC6.out)
      have C0_6 := Lib.hid (C0_5.out.below HC6.out C0_5.out.lt)
      have X_6 := Lib.hid (X_5.out.below HC6.out X_5.out.lt)
      have Y_6 := Lib.hid (Y_5.out.below HC6.out Y_5.out.lt)
      have Z3_6 := Lib.hid (Z3_5.out.below HC6.out Z3_5.out.lt)
      have HOR_6 := Lib.hid (HOR_5.out.wb HC6.out)
      clear c0_c0 c0_c1 c0_c2 x_c0 x_c1 x_c2 y_c0 y_c1 y_c2 z3_c0 z3_c1 z3_c2 c0_l x_l y_l z3_l
      clear hb9
      have HQ4_6 := Lib.hid (tyLock.mr hm9 hf9)
      have Z4_6 := Lib.hid hbx
      clear hbx hm9 hf9 hsm9
      have hwab : IntKind.i64.wrap (a + b) = r := by rw [L2.out]; exact IntWalk.i64_in _ (by omega)
      have HA6 := Lib.hid (show Below w6.heap.size w6 w6 from (Below.refl _ _))
      have c0_c0 := C0_6.out.cell 0
      have c0_c1 := C0_6.out.cell 1
      have c0_c2 := C0_6.out.cell 2
      have x_c0 := X_6.out.cell 0
      have x_c1 := X_6.out.cell 1
      have x_c2 := X_6.out.cell 2
      have y_c0 := Y_6.out.cell 0
      have y_c1 := Y_6.out.cell 1
      have y_c2 := Y_6.out.cell 2
      have z3_c0 := Z3_6.out.cell 0
      have z3_c1 := Z3_6.out.cell 1
      have z3_c2 := Z3_6.out.cell 2
      have z4_c0 := Z4_6.out.cell 0
      have z4_c1 := Z4_6.out.cell 1
      have z4_c2 := Z4_6.out.cell 2
      simp at c0_c0 c0_c1 c0_c2 x_c0 x_c1 x_c2 y_c0 y_c1 y_c2 z3_c0 z3_c1 z3_c2 z4_c0 z4_c1 z4_c2
      have c0_l := C0_6.out.lt
      have x_l := X_6.out.lt
      have y_l := Y_6.out.lt
      have z3_l := Z3_6.out.lt
      have z4_l := Z4_6.out.lt
      go_wp2_with fail
      refine (qdLock_t (Ty.below_w HQ4_6.out HA6.out) (Ty.below_w HQ1_6.out HA6.out)).mono ?_
      rintro e w7 ⟨rfl, hb7⟩
      clear c0_c0 c0_c1 c0_c2 x_c0 x_c1 x_c2 y_c0 y_c1 y_c2 z3_c0 z3_c1 z3_c2 z4_c0 z4_c1 z4_c2 c0_l x_l y_l z3_l z4_l
      have HC7 := Lib.hid (HA6.out.trans (hb7.mono HA6.out.size))
      have HW7 := Lib.hid (HW6.out.trans (HC7.out.mono HW6.out.size))
      have HR0_7 := Lib.hid (Ty.below_w HR0_6.out HC7.out)
      have HQ1_7 := Lib.hid (Ty.below_w HQ1_6.out HC7.out)
      have HQ2_7 := Lib.hid (Ty.below_w HQ2_6.out HC7.out)
      have HQ3_7 := Lib.hid (Ty.below_w HQ3_6.out HC7.out)
      have HQ4_7 := Lib.hid (Ty.below_w HQ4_6.out HC7.out)
      have C0_7 := Lib.hid (C0_6.out.below HC7.out C0_6.out.lt)
      have X_7 := Lib.hid (X_6.out.below HC7.out X_6.out.lt)
      have Y_7 := Lib.hid (Y_6.out.below HC7.out Y_6.out.lt)
      have Z3_7 := Lib.hid (Z3_6.out.below HC7.out Z3_6.out.lt)
      have Z4_7 := Lib.hid (Z4_6.out.below HC7.out Z4_6.out.lt)
      have HOR_7 := Lib.hid (HOR_6.out.wb HC7.out)
      clear hb7
      have HA7 := Lib.hid (show Below w7.heap.size w7 w7 from (Below.refl _ _))
      have c0_c0 := C0_7.out.cell 0
      have c0_c1 := C0_7.out.cell 1
      have c0_c2 := C0_7.out.cell 2
      have x_c0 := X_7.out.cell 0
      have x_c1 := X_7.out.cell 1
      have x_c2 := X_7.out.cell 2
      have y_c0 := Y_7.out.cell 0
      have y_c1 := Y_7.out.cell 1
      have y_c2 := Y_7.out.cell 2
      have z3_c0 := Z3_7.out.cell 0
      have z3_c1 := Z3_7.out.cell 1
      have z3_c2 := Z3_7.out.cell 2
      have z4_c0 := Z4_7.out.cell 0
      have z4_c1 := Z4_7.out.cell 1
      have z4_c2 := Z4_7.out.cell 2
      simp at c0_c0 c0_c1 c0_c2 x_c0 x_c1 x_c2 y_c0 y_c1 y_c2 z3_c0 z3_c1 z3_c2 z4_c0 z4_c1 z4_c2
      have c0_l := C0_7.out.lt
      have x_l := X_7.out.lt
      have y_l := Y_7.out.lt
      have z3_l := Z3_7.out.lt
      have z4_l := Z4_7.out.lt
      go_wp2_with fail
      refine (HOK.out (Ty.below_w HQ1_7.out HA7.out)).mono ?_
      rintro e w8 ⟨rfl, hb8⟩
      clear c0_c0 c0_c1 c0_c2 x_c0 x_c1 x_c2 y_c0 y_c1 y_c2 z3_c0 z3_c1 z3_c2 z4_c0 z4_c1 z4_c2 c0_l x_l y_l z3_l z4_l
      have HC8 := Lib.hid (HA7.out.trans (hb8.mono HA7.out.size))
      have HW8 := Lib.hid (HW7.out.trans (HC8.out.mono HW7.out.size))
      have HR0_8 := Lib.hid (Ty.below_w HR0_7.out HC8.out)
      have HQ1_8 := Lib.hid (Ty.below_w HQ1_7.out HC8.out)
      have HQ2_8 := Lib.hid (Ty.below_w HQ2_7.out HC8.out)
      have HQ3_8 := Lib.hid (Ty.below_w HQ3_7.out HC8.out)
      have HQ4_8 := Lib.hid (Ty.below_w HQ4_7.out HC8.out)
      have C0_8 := Lib.hid (C0_7.out.below HC8.out C0_7.out.lt)
      have X_8 := Lib.hid (X_7.out.below HC8.out X_7.out.lt)
      have Y_8 := Lib.hid (Y_7.out.below HC8.out Y_7.out.lt)
      have Z3_8 := Lib.hid (Z3_7.out.below HC8.out Z3_7.out.lt)
      have Z4_8 := Lib.hid (Z4_7.out.below HC8.out Z4_7.out.lt)
      have HOR_8 := Lib.hid (HOR_7.out.wb HC8.out)
      clear hb8
      rw [L3.out]
      have HA8 := Lib.hid (show Below w8.heap.size w8 w8 from (Below.refl _ _))
      have c0_c0 := C0_8.out.cell 0
      have c0_c1 := C0_8.out.cell 1
      have c0_c2 := C0_8.out.cell 2
      have x_c0 := X_8.out.cell 0
      have x_c1 := X_8.out.cell 1
      have x_c2 := X_8.out.cell 2
      have y_c0 := Y_8.out.cell 0
      have y_c1 := Y_8.out.cell 1
      have y_c2 := Y_8.out.cell 2
      have z3_c0 := Z3_8.out.cell 0
      have z3_c1 := Z3_8.out.cell 1
      have z3_c2 := Z3_8.out.cell 2
      have z4_c0 := Z4_8.out.cell 0
      have z4_c1 := Z4_8.out.cell 1
      have z4_c2 := Z4_8.out.cell 2
      simp at c0_c0 c0_c1 c0_c2 x_c0 x_c1 x_c2 y_c0 y_c1 y_c2 z3_c0 z3_c1 z3_c2 z4_c0 z4_c1 z4_c2
      have c0_l := C0_8.out.lt
      have x_l := X_8.out.lt
      have y_l := Y_8.out.lt
      have z3_l := Z3_8.out.lt
      have z4_l := Z4_8.out.lt
      go_wp2_with fail
      go_ret
      exact ⟨rfl, HW8.out⟩
end
end Go.Proofs.Ytpnlmdnjpcjhjaa
