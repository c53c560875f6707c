/-
  The walk of FnLockOne on drawn arguments.
-/
import Derived.Test.YtpnlmdnjpcjhjaaLDraw1
import Derived.Test.YtpnlmdnjpcjhjaaTqLock
import Derived.Test.YtpnlmdnjpcjhjaaLS2
import Derived.Test.YtpnlmdnjpcjhjaaLS6
import Derived.Test.YtpnlmdnjpcjhjaaLRow
import Derived.Test.YtpnlmdnjpcjhjaaKOpen
import Derived.Deep.DeepCutAuto
namespace Go.Proofs.Ytpnlmdnjpcjhjaa
open Go.RowKit

section
variable {A : Option Addr} {n c : Nat} {w : World}
set_option maxHeartbeats 8000000 in
set_option maxRecDepth 100000 in
theorem dLockOne_walk (hNew : KNew 20) (hIn : KIn 24) (hStk : KStk 25) (hStp : KStp 30) {A2 : Option Addr} {n2 c2 : Nat} (hc : Code w A n) (hcap : n ≤ c) (hcap2 : c ≤ maxLen) (hd : Code w A2 n2) (_hdcap : n2 ≤ c2) (_hdcap2 : c2 ≤ maxLen) : Calls Try.prog 9 #[.slice A n c, .slice A2 n2 c2] w fun e w' => e = .returned (.bool true) ∧ Below w.heap.size w w' := by
  have hn := hc.1
  unfold maxLen at hn
  have hn2 := hd.1
  unfold maxLen at hn2
  have HCODE := Lib.hid hc
  have HMORE := Lib.hid hd
  clear hc hd
  by_cases hbig : (1048576 : Int) < n
  · go_enter Try.func9, Try.ntmps9
    go_wp2_with fail
    go_ret
    exact ⟨rfl, Below.refl _ _⟩
  by_cases hbig2 : (1048576 : Int) < n2
  · go_enter Try.func9, Try.ntmps9
    go_wp2_with fail
    go_ret
    exact ⟨rfl, Below.refl _ _⟩
  have HNEW := Lib.hid hNew
  clear hNew
  have HIN := Lib.hid hIn
  clear hIn
  have HSTK := Lib.hid hStk
  clear hStk
  have HSTP := Lib.hid hStp
  clear hStp
  have HW0 := Lib.hid (Below.refl w.heap.size w)
  go_enter Try.func9, Try.ntmps9
  have HA0 := Lib.hid (show Below w.heap.size w w from (Below.refl _ _))
  go_wp2_with fail
  refine (dDrawLockNew_any HCODE.out hcap hcap2).mono ?_
  rintro e w1 ⟨v0, v1, rfl, lo0, up0, lo1, up1, hb1⟩
  have HC1 := Lib.hid (HA0.out.trans (hb1.mono HA0.out.size))
  have HW1 := Lib.hid (HW0.out.trans (HC1.out.mono HW0.out.size))
  clear hb1
  generalize hDD : newL v0 v1 = DD
  generalize hBB : newB v0 v1 = BB
  have HDD := Lib.hid hDD
  have HBB := Lib.hid hBB
  clear hDD hBB
  have HA1 := Lib.hid (show Below w1.heap.size w1 w1 from (Below.refl _ _))
  go_wp2_with fail
  refine (HNEW.out v0 v1).mono ?_
  rintro e w2 ⟨y10, y11, y12, fq1, rfl, hm1, hf1, hs1, hb2⟩
  have HC2 := Lib.hid (HA1.out.trans (hb2.mono HA1.out.size))
  have HW2 := Lib.hid (HW1.out.trans (HC2.out.mono HW1.out.size))
  clear hb2
  rw [HDD.out] at hm1 hs1
  rw [HBB.out]
  have HMK1 := Lib.hid hm1
  have HFK1 := Lib.hid hf1
  obtain ⟨E1, m1, o1, F1, q1, r1, hcs⟩ := tyLock_shM hm1
  simp only [List.cons.injEq, and_true] at hcs
  obtain ⟨rfl, rfl, rfl⟩ := hcs
  have HQ1_2 := Lib.hid (tyLock.mr hm1 fun b hb => (hf1 b hb).2)
  have HS1 := Lib.hid hs1
  clear hm1 hf1 hs1
  have HA2 := Lib.hid (show Below w2.heap.size w2 (w2.alloc (.cells #[.int .i64 (DD).1, .slice E1 m1 o1, .slice F1 q1 r1] 28)) from ((Below.refl _ _).alloc (Nat.le_refl _) _))
  go_wp2_with fail
  refine (lockNew_any v0 v1).mono ?_
  rintro e w3 ⟨y20, y21, y22, fq2, rfl, hm2, hf2, hs2, hb3⟩
  have HC3 := Lib.hid (HA2.out.trans (hb3.mono HA2.out.size))
  have HW3 := Lib.hid (HW2.out.trans (HC3.out.mono HW2.out.size))
  have HQ1_3 := Lib.hid (Ty.below_w HQ1_2.out HC3.out)
  have X_3 := Lib.hid ((Box.new w2 #[.int .i64 (DD).1, .slice E1 m1 o1, .slice F1 q1 r1] 28).below hb3 (by simp only [World.size_alloc]; omega))
  clear hb3
  rw [HDD.out] at hm2 hs2
  rw [HBB.out]
  obtain ⟨E2, m2, o2, F2, q2, r2, hcs⟩ := tyLock_shM hm2
  simp only [List.cons.injEq, and_true] at hcs
  obtain ⟨rfl, rfl, rfl⟩ := hcs
  have HQ2_3 := Lib.hid (tyLock.mr hm2 fun b hb => (hf2 b hb).2)
  have HS2 := Lib.hid hs2
  clear hm2 hf2 hs2
  have HA3 := Lib.hid (show Below w3.heap.size w3 (w3.alloc (.cells #[.int .i64 (DD).1, .slice E2 m2 o2, .slice F2 q2 r2] 28)) from ((Below.refl _ _).alloc (Nat.le_refl _) _))
  have x_c0 := X_3.out.cell 0
  have x_c1 := X_3.out.cell 1
  have x_c2 := X_3.out.cell 2
  simp at x_c0 x_c1 x_c2
  have x_l := X_3.out.lt
  go_wp2_with fail
  refine (qdLock_t (Ty.below_w HQ1_3.out HA3.out) (Ty.below_w HQ2_3.out HA3.out)).mono ?_
  rintro e w4 ⟨rfl, hb4⟩
  clear x_c0 x_c1 x_c2 x_l
  have HC4 := Lib.hid (HA3.out.trans (hb4.mono HA3.out.size))
  have HW4 := Lib.hid (HW3.out.trans (HC4.out.mono HW3.out.size))
  have HQ1_4 := Lib.hid (Ty.below_w HQ1_3.out HC4.out)
  have HQ2_4 := Lib.hid (Ty.below_w HQ2_3.out HC4.out)
  have X_4 := Lib.hid (X_3.out.below HC4.out X_3.out.lt)
  have Y_4 := Lib.hid ((Box.new w3 #[.int .i64 (DD).1, .slice E2 m2 o2, .slice F2 q2 r2] 28).below hb4 (by simp only [World.size_alloc]; omega))
  clear hb4
  cases BB
  case false =>
    have HA4 := Lib.hid (show Below w4.heap.size w4 w4 from (Below.refl _ _))
    have x_c0 := X_4.out.cell 0
    have x_c1 := X_4.out.cell 1
    have x_c2 := X_4.out.cell 2
    have y_c0 := Y_4.out.cell 0
    have y_c1 := Y_4.out.cell 1
    have y_c2 := Y_4.out.cell 2
    simp at x_c0 x_c1 x_c2 y_c0 y_c1 y_c2
    have x_l := X_4.out.lt
    have y_l := Y_4.out.lt
    go_wp2_with fail
    refine (qdLock_t (Ty.below_w HQ1_4.out HA4.out) (Ty.below_w HQ2_4.out HA4.out)).mono ?_
    rintro e w5 ⟨rfl, hb5⟩
    clear x_c0 x_c1 x_c2 y_c0 y_c1 y_c2 x_l y_l
    have HC5 := Lib.hid (HA4.out.trans (hb5.mono HA4.out.size))
    have HW5 := Lib.hid (HW4.out.trans (HC5.out.mono HW4.out.size))
    have HQ1_5 := Lib.hid (Ty.below_w HQ1_4.out HC5.out)
    have HQ2_5 := Lib.hid (Ty.below_w HQ2_4.out HC5.out)
    have X_5 := Lib.hid (X_4.out.below HC5.out X_4.out.lt)
    have Y_5 := Lib.hid (Y_4.out.below HC5.out Y_4.out.lt)
    clear hb5
    have HA5 := Lib.hid (show Below w5.heap.size w5 w5 from (Below.refl _ _))
    have x_c0 := X_5.out.cell 0
    have x_c1 := X_5.out.cell 1
    have x_c2 := X_5.out.cell 2
    have y_c0 := Y_5.out.cell 0
    have y_c1 := Y_5.out.cell 1
    have y_c2 := Y_5.out.cell 2
    simp at x_c0 x_c1 x_c2 y_c0 y_c1 y_c2
    have x_l := X_5.out.lt
    have y_l := Y_5.out.lt
    go_wp2_with fail
    go_ret
    exact ⟨rfl, HW5.out⟩
  have HINV := Lib.hid (show LInv DD from by rw [← HDD.out]; unfold newL; rw [if_pos HBB.out]; exact new_inv HBB.out)
  obtain ⟨K, hK⟩ : ∃ K : Nat, v0 = (K : Int) := ⟨v0.toNat, by omega⟩
  subst hK
  have hK14 : 1 ≤ K ∧ K ≤ 4 := by
    have h := HBB.out
    unfold newB at h
    rw [Bool.and_eq_true] at h
    have := of_inB h.1
    omega
  have HK14 := Lib.hid hK14
  have HLEN := Lib.hid (show DD.2.1.length = K from by
    rw [← HDD.out]
    unfold newL
    rw [if_pos HBB.out, Int.toNat_natCast]
    unfold newLk
    simp)
  have HMX := Lib.hid (Ty.mb HMK1.out (HC3.out.trans (HC4.out.mono HC3.out.size)) fun b hb => (HFK1.out b hb).2)
  have HFX := Lib.hid (show ∀ b ∈ fq1, b < w4.heap.size ∧ b ≠ w2.heap.size from fun b hb => by have h1 := (HFK1.out b hb).2; have h2 := (HC3.out.trans (HC4.out.mono HC3.out.size)).size; omega)
  have HXL := Lib.hid (show w.heap.size ≤ w2.heap.size from HW2.out.size)
  have x_c0 := X_4.out.cell 0
  have x_c1 := X_4.out.cell 1
  have x_c2 := X_4.out.cell 2
  have y_c0 := Y_4.out.cell 0
  have y_c1 := Y_4.out.cell 1
  have y_c2 := Y_4.out.cell 2
  simp at x_c0 x_c1 x_c2 y_c0 y_c1 y_c2
  have x_l := X_4.out.lt
  have y_l := Y_4.out.lt
  go_wp2_with fail
  go_loopw [11] (fun i wr => ∃ (k : Nat) (D : Lk) (aA : Option Addr) (an ac : Nat) (bA : Option Addr) (bn bc : Nat) (fp : List Nat), i = .int .i64 k ∧ k ≤ 200 ∧ LInv D ∧ D.2.1.length = K ∧ Box wr w2.heap.size #[.int .i64 D.1, .slice aA an ac, .slice bA bn bc] 28 ∧ tyLock.M wr fp [.int .i64 D.1, .slice aA an ac, .slice bA bn bc] D ∧ (∀ b ∈ fp, b < wr.heap.size ∧ b ≠ w2.heap.size) ∧ Below w.heap.size w wr ∧ w2.heap.size < wr.heap.size) (fun i _ => 200 - (intOf i).toNat)
  case atStart => exact ⟨0, DD, _, _, _, _, _, _, fq1, rfl, by omega, HINV.out, HLEN.out, X_4.out, HMX.out, HFX.out, HW4.out, X_4.out.lt⟩
  case round =>
    obtain ⟨k, D, aA, an, ac, bA, bn, bc, fp, rfl, hk, hinv, hlen, hbx, hm, hf, hb, hxl⟩ := hrel
    have HI := Lib.hid hinv
    have HL := Lib.hid hlen
    have BX := Lib.hid hbx
    have HM := Lib.hid hm
    have HF := Lib.hid hf
    have HB := Lib.hid hb
    have HSM := Lib.hid (small_ok hinv.ok)
    have HCD := Lib.hid (HMORE.out.below hb)
    have hnn2 : n2 ≤ 1048576 := by omega
    clear hinv hlen hbx hm hf hb x_c0 x_c1 x_c2 y_c0 y_c1 y_c2 x_l y_l
    have x0 := BX.out.cell 0
    have x1 := BX.out.cell 1
    have x2 := BX.out.cell 2
    have xl := BX.out.lt
    simp at x0 x1 x2
    by_cases hkn : k < n2
    case neg =>
      have h1 : ¬ ((k : Int) < n2) := by omega
      have h2 : decide ((k : Int) < n2) = false := decide_eq_false h1
      go_wp2_with fail
      go_ret
      exact ⟨rfl, HB.out⟩
    by_cases hk2 : k < 200
    case neg =>
      have h1 : decide ((k : Int) < n2) = true := decide_eq_true (by omega)
      have h2 : ¬ ((k : Int) < 200) := by omega
      have h3 : decide ((k : Int) < 200) = false := decide_eq_false h2
      go_wp2_with fail
      go_ret
      exact ⟨rfl, HB.out⟩
    obtain ⟨cb, co, rfl, hcb, hcell⟩ := HCD.out.2 (by omega)
    obtain ⟨v, hv0, hv1, hv2⟩ := hcell k hkn
    obtain ⟨V, rfl⟩ : ∃ V : Nat, v = V := ⟨v.toNat, by omega⟩
    have h1 : (k : Int) < n2 := by omega
    have h2 : (k : Int) < 200 := by omega
    have h3 : (0 : Int) ≤ k := by omega
    have hcl : cb < wr.heap.size := hcb
    have hwv : IntKind.i64.wrap (V : Int) = (V : Int) := IntWalk.i64_in _ (by omega)
    have hK0 : ¬ ((K : Int) = 0) := by omega
    have hK1 : ((K : Int) == 0) = false := by rw [beq_eq_false_iff_ne]; exact hK0
    obtain ⟨i, hi⟩ : ∃ i : Nat, V % K = i := ⟨_, rfl⟩
    have hiK : i < K := by rw [← hi]; exact Nat.mod_lt _ (by omega)
    have hKN : ¬ (K = 0) := by omega
    have hmt : (V : Int).tmod (K : Int) = (i : Int) := by rw [← hi]; rfl
    have hmod : (V : Int) % (K : Int) = (i : Int) := by rw [← hi, Int.natCast_emod]
    have hwi : IntKind.i64.wrap (i : Int) = (i : Int) := IntWalk.i64_in _ (by omega)
    have HIL := Lib.hid (show i < D.2.1.length from by rw [HL.out]; exact hiK)
    obtain ⟨E, hE⟩ : ∃ E : Lk, stpL D (i : Int) = E := ⟨_, rfl⟩
    obtain ⟨q, hq⟩ : ∃ q : Bool, stpB D (i : Int) = q := ⟨_, rfl⟩
    have HE := Lib.hid hE
    have HQ := Lib.hid hq
    have HR := Lib.hid (tyLock.mr HM.out fun b hb => (HF.out b hb).1)
    clear hcell hE hq hi
    go_upto_region 11 with fail
    go_cut [12, 13] (fun y z wx => ∃ (Y : Nat) (dA : Option Addr) (dn dc : Nat) (eA : Option Addr) (en ec : Nat) (fa : List Nat), y = .pointer (some ⟨Y, 0, none⟩) ∧ z = .bool q ∧ Box wx Y #[.int .i64 E.1, .slice dA dn dc, .slice eA en ec] 28 ∧ tyLock.M wx fa [.int .i64 E.1, .slice dA dn dc, .slice eA en ec] E ∧ (∀ b ∈ fa, b < wx.heap.size ∧ w2.heap.size < b) ∧ Below wr.heap.size wr wx ∧ w2.heap.size < Y)
    case first =>
      refine wp_region_held_drew (S := fun w' => w'.cell? ⟨w2.heap.size, 0, none⟩ = some (.int .i64 D.1) ∧ w'.cell? ⟨w2.heap.size, 1, none⟩ = some (.slice aA an ac) ∧ w'.cell? ⟨w2.heap.size, 2, none⟩ = some (.slice bA bn bc) ∧ w'.cell? ⟨cb, co + k, none⟩ = some (.int .u8 (V : Int))) (by kernel_rfl) ⟨x0, x1, x2, hv0⟩ (fun hHeld => ?_)
      have HTd := Lib.hid (Below.refl wr.heap.size wr).drew
      generalize wr.drew = wd at HTd hHeld ⊢
      have hXd : wr.heap.size ≤ wd.heap.size := HTd.out.size
      refine wpAnyH_take (i := 0) (v := ?vg1_0) rfl (by kernel_rfl) (by kernel_rfl) (by kernel_rfl) (fun _ _ _ h => h) (Or.inl ⟨by rfl, ?hyg1_0⟩) (by assumption) ?restg1_0
      case hyg1_0 =>
        intro w hSw
        try dsimp only at hSw
        go_simp
        try with_reducible rfl
      try simp only [Act.put, List.setIfInBounds_toArray, List.set_cons_zero, List.set_cons_succ, List.getElem_toArray, List.getElem_cons_zero]
      refine wpAnyH_take (i := 1) (v := ?vg2_1) rfl (by kernel_rfl) (by kernel_rfl) (by kernel_rfl) (fun _ _ _ h => h) (Or.inl ⟨by rfl, ?hyg2_1⟩) (by assumption) ?restg2_1
      case hyg2_1 =>
        intro w hSw
        try dsimp only at hSw
        go_simp
        try with_reducible rfl
      try simp only [Act.put, List.setIfInBounds_toArray, List.set_cons_zero, List.set_cons_succ, List.getElem_toArray, List.getElem_cons_zero, List.getElem_cons_succ]
      refine wpAnyH_take (i := 2) (v := ?vg3_2) rfl (by kernel_rfl) (by kernel_rfl) (by kernel_rfl) (fun _ _ _ h => h) (Or.inl ⟨by rfl, ?hyg3_2⟩) (by assumption) ?restg3_2
      case hyg3_2 =>
        intro w hSw
        try dsimp only at hSw
        go_simp
        try with_reducible rfl
      try simp only [Act.put, List.setIfInBounds_toArray, List.set_cons_zero, List.set_cons_succ, List.getElem_toArray, List.getElem_cons_zero, List.getElem_cons_succ]
      refine wpAnyH_take (i := 3) (v := ?vg4_3) rfl (by kernel_rfl) (by kernel_rfl) (by kernel_rfl) (fun _ _ _ h => h) (Or.inl ⟨by rfl, ?hyg4_3⟩) (by assumption) ?restg4_3
      case hyg4_3 =>
        intro w hSw
        try dsimp only at hSw
        go_simp
        try with_reducible rfl
      try simp only [Act.put, List.setIfInBounds_toArray, List.set_cons_zero, List.set_cons_succ, List.getElem_toArray, List.getElem_cons_zero, List.getElem_cons_succ]
      refine wpAnyH_take (i := 4) (v := ?vg5_4) rfl (by kernel_rfl) (by kernel_rfl) (by kernel_rfl) (fun _ _ _ h => h) (Or.inl ⟨by rfl, ?hyg5_4⟩) (by assumption) ?restg5_4
      case hyg5_4 =>
        intro w hSw
        try dsimp only at hSw
        go_simp
        try with_reducible rfl
      try simp only [Act.put, List.setIfInBounds_toArray, List.set_cons_zero, List.set_cons_succ, List.getElem_toArray, List.getElem_cons_zero, List.getElem_cons_succ]
      refine wpAnyH_take (i := 5) (v := ?vg6_5) rfl (by kernel_rfl) (by kernel_rfl) (by kernel_rfl) (fun _ _ _ h => h) (Or.inl ⟨by rfl, ?hyg6_5⟩) (by assumption) ?restg6_5
      case hyg6_5 =>
        intro w hSw
        try dsimp only at hSw
        go_simp
        try with_reducible rfl
      try simp only [Act.put, List.setIfInBounds_toArray, List.set_cons_zero, List.set_cons_succ, List.getElem_toArray, List.getElem_cons_zero, List.getElem_cons_succ]
      refine wpAnyH_take (i := 6) (v := ?vg7_6) rfl (by kernel_rfl) (by kernel_rfl) (by kernel_rfl) (fun _ _ _ h => h) (Or.inl ⟨by rfl, ?hyg7_6⟩) (by assumption) ?restg7_6
      case hyg7_6 =>
        intro w hSw
        try dsimp only at hSw
        go_simp
        try with_reducible rfl
      try simp only [Act.put, List.setIfInBounds_toArray, List.set_cons_zero, List.set_cons_succ, List.getElem_toArray, List.getElem_cons_zero, List.getElem_cons_succ]
      refine wpAnyH_take (i := 7) (v := (.int .i64 (i : Int))) rfl (by kernel_rfl) (by kernel_rfl) (by kernel_rfl) (fun _ _ _ h => h) (Or.inl ⟨by rfl, ?hyg8_7⟩) (by assumption) ?restg8_7
      case hyg8_7 =>
        intro w hSw
        try dsimp only at hSw
        go_simp
        all_goals (rw [if_neg hKN, hmt])
      try simp only [Act.put, List.setIfInBounds_toArray, List.set_cons_zero, List.set_cons_succ, List.getElem_toArray, List.getElem_cons_zero, List.getElem_cons_succ]
      refine wpAnyH_ready (rs := [8, 12]) (by kernel_rfl) (by simp) ?_
      refine (AllReadyH.cons rfl (fun K hK => ?_) (AllReadyH.cons rfl (fun K hK => ?_) AllReadyH.nil))
      · go_simp
        go_at_call 30
        refine (HSTP.out (i : Int) (Ty.below_w HR.out HTd.out) HSM.out.1).mono ?_
        rintro e wdc ⟨a0, a1, a2, fa9, rfl, hm9, hf9, hsm9, hb9⟩
        rw [HE.out] at hm9 hsm9
        rw [HQ.out]
        obtain ⟨aA1, an1, ac1, aA2, an2, ac2, hcs⟩ := tyLock_shM hm9
        simp only [List.cons.injEq, and_true] at hcs
        obtain ⟨rfl, rfl, rfl⟩ := hcs
        have hfx9 := hf9
        have HTdc := Lib.hid (HTd.out.trans (hb9.mono HTd.out.size))
        have HMdc := Lib.hid hm9
        have HF9 := Lib.hid hf9
        have hszdc := hb9.size
        have hzzdc := HTd.out.size
        clear hm9 hf9 hb9
        refine hK.out _ _ ⟨(kc HTdc.out _ _ xl).trans x0, (kc HTdc.out _ _ xl).trans x1, (kc HTdc.out _ _ xl).trans x2, (kc HTdc.out _ _ hcl).trans hv0⟩ (fun hHeld => ?_)
        clear hK K
        try simp only [Act.put, List.setIfInBounds_toArray, List.set_cons_zero, List.set_cons_succ, List.getElem_toArray, List.getElem_cons_zero, List.getElem_cons_succ]
        refine wpAnyH_take (i := 9) (v := ?vg9_9) rfl (by kernel_rfl) (by kernel_rfl) (by kernel_rfl) (fun _ _ _ h => h) (Or.inl ⟨by rfl, ?hyg9_9⟩) (by assumption) ?restg9_9
        case hyg9_9 =>
          intro w hSw
          try dsimp only at hSw
          go_simp
          try with_reducible rfl
        try simp only [Act.put, List.setIfInBounds_toArray, List.set_cons_zero, List.set_cons_succ, List.getElem_toArray, List.getElem_cons_zero, List.getElem_cons_succ]
        refine wpAnyH_take (i := 10) (v := ?vg10_10) rfl (by kernel_rfl) (by kernel_rfl) (by kernel_rfl) (fun _ _ _ h => h) (Or.inl ⟨by rfl, ?hyg10_10⟩) (by assumption) ?restg10_10
        case hyg10_10 =>
          intro w hSw
          try dsimp only at hSw
          go_simp
          try with_reducible rfl
        try simp only [Act.put, List.setIfInBounds_toArray, List.set_cons_zero, List.set_cons_succ, List.getElem_toArray, List.getElem_cons_zero, List.getElem_cons_succ]
        refine wpAnyH_take (i := 11) (v := ?vg11_11) rfl (by kernel_rfl) (by kernel_rfl) (by kernel_rfl) (fun _ _ _ h => h) (Or.inl ⟨by rfl, ?hyg11_11⟩) (by assumption) ?restg11_11
        case hyg11_11 =>
          intro w hSw
          try dsimp only at hSw
          go_simp
          try with_reducible rfl
        try simp only [Act.put, List.setIfInBounds_toArray, List.set_cons_zero, List.set_cons_succ, List.getElem_toArray, List.getElem_cons_zero, List.getElem_cons_succ]
        refine wpAnyH_ready (rs := [12]) (by kernel_rfl) (by simp) ?_
        refine (AllReadyH.cons rfl (fun K hK => ?_) AllReadyH.nil)
        go_simp
        have HTdca := Lib.hid (HTdc.out.alloc HTdc.out.size (.cells #[.int .i64 0, .slice none 0 0, .slice none 0 0] 28))
        have HBdca := Lib.hid (Box.new wdc #[.int .i64 0, .slice none 0 0, .slice none 0 0] 28)
        have hYdca := HTdc.out.size
        have hsbdca : wdc.heap.size < (wdc.alloc (.cells #[.int .i64 0, .slice none 0 0, .slice none 0 0] 28)).heap.size := HBdca.out.lt
        have HMdca := Lib.hid (Ty.mb HMdc.out ((Below.refl _ _).alloc (Nat.le_refl _) (.cells #[.int .i64 0, .slice none 0 0, .slice none 0 0] 28)) fun b hb => (HF9.out b hb).2)
        generalize wdc.alloc (.cells #[.int .i64 0, .slice none 0 0, .slice none 0 0] 28) = wdca at HTdca HBdca hsbdca HMdca ⊢
        refine hK.out _ _ ⟨(kc HTdca.out _ _ xl).trans x0, (kc HTdca.out _ _ xl).trans x1, (kc HTdca.out _ _ xl).trans x2, (kc HTdca.out _ _ hcl).trans hv0⟩ (fun hHeld => ?_)
        clear hK K
        try simp only [Act.put, List.setIfInBounds_toArray, List.set_cons_zero, List.set_cons_succ, List.getElem_toArray, List.getElem_cons_zero, List.getElem_cons_succ]
        refine wpAnyH_ready (rs := [13]) (by kernel_rfl) (by simp) ?_
        refine (AllReadyH.cons rfl (fun K hK => ?_) AllReadyH.nil)
        have z0 := HBdca.out.cell 0
        have z1 := HBdca.out.cell 1
        have z2 := HBdca.out.cell 2
        have f0 := HBdca.out.frz 0
        have f1 := HBdca.out.frz 1
        have f2 := HBdca.out.frz 2
        have zl := HBdca.out.lt
        simp at z0 z1 z2
        go_simp
        have HMz := Lib.hid (tyLock.mframe (tyLock.mframe (tyLock.mframe HMdca.out fun b hb => heap_setCell_other _ ⟨wdc.heap.size, 0, none⟩ b (.int .i64 E.1) (by have h := HF9.out b hb; show b ≠ wdc.heap.size; omega)) fun b hb => heap_setCell_other _ ⟨wdc.heap.size, 1, none⟩ b (.slice aA1 an1 ac1) (by have h := HF9.out b hb; show b ≠ wdc.heap.size; omega)) fun b hb => heap_setCell_other _ ⟨wdc.heap.size, 2, none⟩ b (.slice aA2 an2 ac2) (by have h := HF9.out b hb; show b ≠ wdc.heap.size; omega))
        have HBz := Lib.hid (show Box (((wdca.setCell ⟨wdc.heap.size, 0, none⟩ (.int .i64 E.1)).setCell ⟨wdc.heap.size, 1, none⟩ (.slice aA1 an1 ac1)).setCell ⟨wdc.heap.size, 2, none⟩ (.slice aA2 an2 ac2)) wdc.heap.size #[.int .i64 E.1, .slice aA1 an1 ac1, .slice aA2 an2 ac2] 28 by have h := (((HBdca.out.set 0 (.int .i64 E.1)).set 1 (.slice aA1 an1 ac1)).set 2 (.slice aA2 an2 ac2)); simpa using h)
        have HTz := Lib.hid (((HTdca.out.setCell (p := ⟨wdc.heap.size, 0, none⟩) (by show _ ≤ wdc.heap.size; omega) (.int .i64 E.1)).setCell (p := ⟨wdc.heap.size, 1, none⟩) (by show _ ≤ wdc.heap.size; omega) (.slice aA1 an1 ac1)).setCell (p := ⟨wdc.heap.size, 2, none⟩) (by show _ ≤ wdc.heap.size; omega) (.slice aA2 an2 ac2))
        have HFz := Lib.hid (fun b (hb : b ∈ fa9) => show b < ((((wdca.setCell ⟨wdc.heap.size, 0, none⟩ (.int .i64 E.1)).setCell ⟨wdc.heap.size, 1, none⟩ (.slice aA1 an1 ac1)).setCell ⟨wdc.heap.size, 2, none⟩ (.slice aA2 an2 ac2))).heap.size by have h := HF9.out b hb; simp only [World.size_setCell]; omega)
        clear z0 z1 z2 f0 f1 f2 zl
        generalize (((wdca.setCell ⟨wdc.heap.size, 0, none⟩ (.int .i64 E.1)).setCell ⟨wdc.heap.size, 1, none⟩ (.slice aA1 an1 ac1)).setCell ⟨wdc.heap.size, 2, none⟩ (.slice aA2 an2 ac2)) = wz at HMz HBz HTz HFz ⊢
        refine hK.out _ _ ⟨(kc HTz.out _ _ xl).trans x0, (kc HTz.out _ _ xl).trans x1, (kc HTz.out _ _ xl).trans x2, (kc HTz.out _ _ hcl).trans hv0⟩ (fun hHeld => ?_)
        clear hK K
        try simp only [Act.put, List.setIfInBounds_toArray, List.set_cons_zero, List.set_cons_succ, List.getElem_toArray, List.getElem_cons_zero, List.getElem_cons_succ]
        refine wpAnyH_take (i := 14) (v := ?vg12_14) rfl (by kernel_rfl) (by kernel_rfl) (by kernel_rfl) (fun _ _ _ h => h) (Or.inl ⟨by rfl, ?hyg12_14⟩) (by assumption) ?restg12_14
        case hyg12_14 =>
          intro w hSw
          try dsimp only at hSw
          go_simp
          try with_reducible rfl
        try simp only [Act.put, List.setIfInBounds_toArray, List.set_cons_zero, List.set_cons_succ, List.getElem_toArray, List.getElem_cons_zero, List.getElem_cons_succ]
        refine wpAnyH_done (by kernel_rfl) ?_ _
        go_wp2_with fail
        go_meet
        exact ⟨wdc.heap.size, aA1, an1, ac1, aA2, an2, ac2, fa9, rfl, rfl, HBz.out, HMz.out, fun b hb => ⟨HFz.out b hb, by have h := HF9.out b hb; omega⟩, HTz.out, by omega⟩
      · go_simp
        have HTda := Lib.hid (HTd.out.alloc HTd.out.size (.cells #[.int .i64 0, .slice none 0 0, .slice none 0 0] 28))
        have HBda := Lib.hid (Box.new wd #[.int .i64 0, .slice none 0 0, .slice none 0 0] 28)
        have hYda := HTd.out.size
        have hsbda : wd.heap.size < (wd.alloc (.cells #[.int .i64 0, .slice none 0 0, .slice none 0 0] 28)).heap.size := HBda.out.lt
        generalize wd.alloc (.cells #[.int .i64 0, .slice none 0 0, .slice none 0 0] 28) = wda at HTda HBda hsbda ⊢
        refine hK.out _ _ ⟨(kc HTda.out _ _ xl).trans x0, (kc HTda.out _ _ xl).trans x1, (kc HTda.out _ _ xl).trans x2, (kc HTda.out _ _ hcl).trans hv0⟩ (fun hHeld => ?_)
        clear hK K
        try simp only [Act.put, List.setIfInBounds_toArray, List.set_cons_zero, List.set_cons_succ, List.getElem_toArray, List.getElem_cons_zero, List.getElem_cons_succ]
        refine wpAnyH_ready (rs := [8]) (by kernel_rfl) (by simp) ?_
        refine (AllReadyH.cons rfl (fun K hK => ?_) AllReadyH.nil)
        go_simp
        go_at_call 30
        refine (HSTP.out (i : Int) (Ty.below_w HR.out HTda.out) HSM.out.1).mono ?_
        rintro e wdac ⟨a0, a1, a2, fa9, rfl, hm9, hf9, hsm9, hb9⟩
        rw [HE.out] at hm9 hsm9
        rw [HQ.out]
        obtain ⟨aA1, an1, ac1, aA2, an2, ac2, hcs⟩ := tyLock_shM hm9
        simp only [List.cons.injEq, and_true] at hcs
        obtain ⟨rfl, rfl, rfl⟩ := hcs
        have hfx9 := hf9
        have HTdac := Lib.hid (HTda.out.trans (hb9.mono HTda.out.size))
        have HMdac := Lib.hid hm9
        have HF9 := Lib.hid hf9
        have HBdac := Lib.hid (HBda.out.below hb9 HBda.out.lt)
        have hszdac := hb9.size
        have hzzdac := HTda.out.size
        clear hm9 hf9 hb9
        refine hK.out _ _ ⟨(kc HTdac.out _ _ xl).trans x0, (kc HTdac.out _ _ xl).trans x1, (kc HTdac.out _ _ xl).trans x2, (kc HTdac.out _ _ hcl).trans hv0⟩ (fun hHeld => ?_)
        clear hK K
        try simp only [Act.put, List.setIfInBounds_toArray, List.set_cons_zero, List.set_cons_succ, List.getElem_toArray, List.getElem_cons_zero, List.getElem_cons_succ]
        refine wpAnyH_take (i := 9) (v := ?vg13_9) rfl (by kernel_rfl) (by kernel_rfl) (by kernel_rfl) (fun _ _ _ h => h) (Or.inl ⟨by rfl, ?hyg13_9⟩) (by assumption) ?restg13_9
        case hyg13_9 =>
          intro w hSw
          try dsimp only at hSw
          go_simp
          try with_reducible rfl
        try simp only [Act.put, List.setIfInBounds_toArray, List.set_cons_zero, List.set_cons_succ, List.getElem_toArray, List.getElem_cons_zero, List.getElem_cons_succ]
        refine wpAnyH_take (i := 10) (v := ?vg14_10) rfl (by kernel_rfl) (by kernel_rfl) (by kernel_rfl) (fun _ _ _ h => h) (Or.inl ⟨by rfl, ?hyg14_10⟩) (by assumption) ?restg14_10
        case hyg14_10 =>
          intro w hSw
          try dsimp only at hSw
          go_simp
          try with_reducible rfl
        try simp only [Act.put, List.setIfInBounds_toArray, List.set_cons_zero, List.set_cons_succ, List.getElem_toArray, List.getElem_cons_zero, List.getElem_cons_succ]
        refine wpAnyH_take (i := 11) (v := ?vg15_11) rfl (by kernel_rfl) (by kernel_rfl) (by kernel_rfl) (fun _ _ _ h => h) (Or.inl ⟨by rfl, ?hyg15_11⟩) (by assumption) ?restg15_11
        case hyg15_11 =>
          intro w hSw
          try dsimp only at hSw
          go_simp
          try with_reducible rfl
        try simp only [Act.put, List.setIfInBounds_toArray, List.set_cons_zero, List.set_cons_succ, List.getElem_toArray, List.getElem_cons_zero, List.getElem_cons_succ]
        refine wpAnyH_ready (rs := [13]) (by kernel_rfl) (by simp) ?_
        refine (AllReadyH.cons rfl (fun K hK => ?_) AllReadyH.nil)
        have z0 := HBdac.out.cell 0
        have z1 := HBdac.out.cell 1
        have z2 := HBdac.out.cell 2
        have f0 := HBdac.out.frz 0
        have f1 := HBdac.out.frz 1
        have f2 := HBdac.out.frz 2
        have zl := HBdac.out.lt
        simp at z0 z1 z2
        go_simp
        have HMz := Lib.hid (tyLock.mframe (tyLock.mframe (tyLock.mframe HMdac.out fun b hb => heap_setCell_other _ ⟨wd.heap.size, 0, none⟩ b (.int .i64 E.1) (by have h := HF9.out b hb; show b ≠ wd.heap.size; omega)) fun b hb => heap_setCell_other _ ⟨wd.heap.size, 1, none⟩ b (.slice aA1 an1 ac1) (by have h := HF9.out b hb; show b ≠ wd.heap.size; omega)) fun b hb => heap_setCell_other _ ⟨wd.heap.size, 2, none⟩ b (.slice aA2 an2 ac2) (by have h := HF9.out b hb; show b ≠ wd.heap.size; omega))
        have HBz := Lib.hid (show Box (((wdac.setCell ⟨wd.heap.size, 0, none⟩ (.int .i64 E.1)).setCell ⟨wd.heap.size, 1, none⟩ (.slice aA1 an1 ac1)).setCell ⟨wd.heap.size, 2, none⟩ (.slice aA2 an2 ac2)) wd.heap.size #[.int .i64 E.1, .slice aA1 an1 ac1, .slice aA2 an2 ac2] 28 by have h := (((HBdac.out.set 0 (.int .i64 E.1)).set 1 (.slice aA1 an1 ac1)).set 2 (.slice aA2 an2 ac2)); simpa using h)
        have HTz := Lib.hid (((HTdac.out.setCell (p := ⟨wd.heap.size, 0, none⟩) (by show _ ≤ wd.heap.size; omega) (.int .i64 E.1)).setCell (p := ⟨wd.heap.size, 1, none⟩) (by show _ ≤ wd.heap.size; omega) (.slice aA1 an1 ac1)).setCell (p := ⟨wd.heap.size, 2, none⟩) (by show _ ≤ wd.heap.size; omega) (.slice aA2 an2 ac2))
        have HFz := Lib.hid (fun b (hb : b ∈ fa9) => show b < ((((wdac.setCell ⟨wd.heap.size, 0, none⟩ (.int .i64 E.1)).setCell ⟨wd.heap.size, 1, none⟩ (.slice aA1 an1 ac1)).setCell ⟨wd.heap.size, 2, none⟩ (.slice aA2 an2 ac2))).heap.size by have h := HF9.out b hb; simp only [World.size_setCell]; omega)
        clear z0 z1 z2 f0 f1 f2 zl
        generalize (((wdac.setCell ⟨wd.heap.size, 0, none⟩ (.int .i64 E.1)).setCell ⟨wd.heap.size, 1, none⟩ (.slice aA1 an1 ac1)).setCell ⟨wd.heap.size, 2, none⟩ (.slice aA2 an2 ac2)) = wz at HMz HBz HTz HFz ⊢
        refine hK.out _ _ ⟨(kc HTz.out _ _ xl).trans x0, (kc HTz.out _ _ xl).trans x1, (kc HTz.out _ _ xl).trans x2, (kc HTz.out _ _ hcl).trans hv0⟩ (fun hHeld => ?_)
        clear hK K
        try simp only [Act.put, List.setIfInBounds_toArray, List.set_cons_zero, List.set_cons_succ, List.getElem_toArray, List.getElem_cons_zero, List.getElem_cons_succ]
        refine wpAnyH_take (i := 14) (v := ?vg16_14) rfl (by kernel_rfl) (by kernel_rfl) (by kernel_rfl) (fun _ _ _ h => h) (Or.inl ⟨by rfl, ?hyg16_14⟩) (by assumption) ?restg16_14
        case hyg16_14 =>
          intro w hSw
          try dsimp only at hSw
          go_simp
          try with_reducible rfl
        try simp only [Act.put, List.setIfInBounds_toArray, List.set_cons_zero, List.set_cons_succ, List.getElem_toArray, List.getElem_cons_zero, List.getElem_cons_succ]
        refine wpAnyH_done (by kernel_rfl) ?_ _
        go_wp2_with fail
        go_meet
        exact ⟨wd.heap.size, aA1, an1, ac1, aA2, an2, ac2, fa9, rfl, rfl, HBz.out, HMz.out, fun b hb => ⟨HFz.out b hb, by have h := HF9.out b hb; omega⟩, HTz.out, by omega⟩
    case rest =>
      obtain ⟨Y, dA, dn, dc, eA, en, ec, fa, rfl, rfl, hby, hm9, hf9, hb9, hXY⟩ := hcut
      rename World => wA
      have HBA := Lib.hid (HB.out.trans (hb9.mono HB.out.size))
      have BXA := Lib.hid (BX.out.below hb9 BX.out.lt)
      have BYA := Lib.hid hby
      have HMD := Lib.hid (Ty.mb HM.out hb9 fun b hb => (HF.out b hb).1)
      have HFD := Lib.hid (show ∀ b ∈ fp, b < wA.heap.size ∧ b ≠ w2.heap.size from fun b hb => by have h1 := HF.out b hb; have h2 := hb9.size; omega)
      have HME := Lib.hid hm9
      have HFE := Lib.hid hf9
      have HXY := Lib.hid hXY
      have HXA := Lib.hid (show w2.heap.size < wA.heap.size from BXA.out.lt)
      clear hby hm9 hf9 hb9 hXY x0 x1 x2 xl hv0 hcl
      have HC9 := Lib.hid (show q = canB D i ∧ E = (if q = true then stepD D i else D) from by
        have h1 := HQ.out
        have h2 := HE.out
        have hmy : mayL D (i : Int) = true := may_iff.2 ⟨i, HIL.out, rfl, Int.toNat_natCast i⟩
        unfold stpB at h1
        unfold stpL at h2
        rw [inv_ok HI.out, hmy, Int.toNat_natCast] at h1 h2
        rw [if_pos ⟨rfl, rfl⟩] at h2
        have h3 : q = canB D i := by rw [← h1]; rfl
        exact ⟨h3, by rw [← h2, h3]⟩)
      have x0 := BXA.out.cell 0
      have x1 := BXA.out.cell 1
      have x2 := BXA.out.cell 2
      have xl := BXA.out.lt
      have y0 := BYA.out.cell 0
      have y1 := BYA.out.cell 1
      have y2 := BYA.out.cell 2
      have yl := BYA.out.lt
      have f0 := BXA.out.frz 0
      have f1 := BXA.out.frz 1
      have f2 := BXA.out.frz 2
      simp at x0 x1 x2 y0 y1 y2
      cases q
      case false =>
        have hED : E = D := HC9.out.2
        clear y0 y1 y2 yl f0 f1 f2
        have HRR := Lib.hid (tyLock.mr HMD.out fun b hb => (HFD.out b hb).1)
        have HIN9 := Lib.hid (inv_in HI.out)
        have HST9 := Lib.hid (inv_stuck HI.out)
        obtain ⟨z, hz⟩ : ∃ z, inD D = z := ⟨_, rfl⟩
        have HZ := Lib.hid hz
        clear hz
        go_wp2_with fail
        refine (HIN.out HRR.out).mono ?_
        rw [HZ.out]
        rintro e w90 ⟨rfl, hb90⟩
        have hz1 : ¬ (1 < z) := by have h := HIN9.out; rw [HZ.out] at h; omega
        have hz2 : decide (1 < z) = false := decide_eq_false hz1
        have BX90 := Lib.hid (BXA.out.below hb90 BXA.out.lt)
        have HRR90 := Lib.hid (Ty.below_w HRR.out hb90)
        have HM90 := Lib.hid (Ty.mb HMD.out hb90 fun b hb => (HFD.out b hb).1)
        have HF90 := Lib.hid (show ∀ b ∈ fp, b < w90.heap.size ∧ b ≠ w2.heap.size from fun b hb => by have h1 := HFD.out b hb; have h2 := hb90.size; omega)
        have HB90 := Lib.hid (HBA.out.trans (hb90.mono HBA.out.size))
        clear hb90 x0 x1 x2 xl
        have p0 := BX90.out.cell 0
        have p1 := BX90.out.cell 1
        have p2 := BX90.out.cell 2
        have pl := BX90.out.lt
        simp at p0 p1 p2
        go_wp2_with fail
        refine (HSTK.out HRR90.out).mono ?_
        rw [HST9.out]
        rintro e w91 ⟨rfl, hb91⟩
        have BX91 := Lib.hid (BX90.out.below hb91 BX90.out.lt)
        have HM91 := Lib.hid (Ty.mb HM90.out hb91 fun b hb => (HF90.out b hb).1)
        have HF91 := Lib.hid (show ∀ b ∈ fp, b < w91.heap.size ∧ b ≠ w2.heap.size from fun b hb => by have h1 := HF90.out b hb; have h2 := hb91.size; omega)
        have HB91 := Lib.hid (HB90.out.trans (hb91.mono HB90.out.size))
        clear hb91 p0 p1 p2 pl
        go_wp2_with fail
        go_roundw
        case rel => exact ⟨k + 1, D, aA, an, ac, bA, bn, bc, fp, by go_num, by omega, HI.out, HL.out, BX91.out, HM91.out, HF91.out, HB91.out, BX91.out.lt⟩
        case measure => simp [intOf]; omega
      case true =>
        have HIE := Lib.hid (show LInv E from by rw [HC9.out.2, if_pos rfl]; exact step_inv HI.out HIL.out HC9.out.1.symm)
        have HLE := Lib.hid (show E.2.1.length = K from by
          rw [HC9.out.2, if_pos rfl, ← HL.out]
          have h := (run_ok (D := D) (L := [(i : Int)]) HI.out.ok (k := 1)).2.1
          have h2 : (runTo D [(i : Int)] 1).1 = stepD D i := by
            show (if mayL D (i : Int) = true ∧ canB D ((i : Int)).toNat = true then (stepD D ((i : Int)).toNat, (0 : Int) + 1) else (D, 0)).1 = _
            rw [if_pos ⟨may_iff.2 ⟨i, HIL.out, rfl, Int.toNat_natCast i⟩, by rw [Int.toNat_natCast]; exact HC9.out.1.symm⟩, Int.toNat_natCast]
          rw [h2] at h
          exact h)
        have hXY1 : ¬ (w2.heap.size = Y) := by have := HXY.out; omega
        have hXY2 : ¬ (Y = w2.heap.size) := by have := HXY.out; omega
        have BXB := Lib.hid (show Box (((wA.setCell ⟨w2.heap.size, 0, none⟩ (.int .i64 E.1)).setCell ⟨w2.heap.size, 1, none⟩ (.slice dA dn dc)).setCell ⟨w2.heap.size, 2, none⟩ (.slice eA en ec)) w2.heap.size #[.int .i64 E.1, .slice dA dn dc, .slice eA en ec] 28 from by have h := ((BXA.out.set 0 (.int .i64 E.1)).set 1 (.slice dA dn dc)).set 2 (.slice eA en ec); simpa using h)
        have HMB := Lib.hid (tyLock.mframe (tyLock.mframe (tyLock.mframe HME.out fun b hb => heap_setCell_other _ ⟨w2.heap.size, 0, none⟩ b (.int .i64 E.1) (by have h := HFE.out b hb; show b ≠ w2.heap.size; omega)) fun b hb => heap_setCell_other _ ⟨w2.heap.size, 1, none⟩ b (.slice dA dn dc) (by have h := HFE.out b hb; show b ≠ w2.heap.size; omega)) fun b hb => heap_setCell_other _ ⟨w2.heap.size, 2, none⟩ b (.slice eA en ec) (by have h := HFE.out b hb; show b ≠ w2.heap.size; omega))
        have HFB := Lib.hid (show ∀ b ∈ fa, b < (((wA.setCell ⟨w2.heap.size, 0, none⟩ (.int .i64 E.1)).setCell ⟨w2.heap.size, 1, none⟩ (.slice dA dn dc)).setCell ⟨w2.heap.size, 2, none⟩ (.slice eA en ec)).heap.size ∧ b ≠ w2.heap.size from fun b hb => by have h := HFE.out b hb; simp only [World.size_setCell]; omega)
        have HBB := Lib.hid (((HBA.out.setCell (p := ⟨w2.heap.size, 0, none⟩) (by show w.heap.size ≤ w2.heap.size; exact HXL.out) (.int .i64 E.1)).setCell (p := ⟨w2.heap.size, 1, none⟩) (by show w.heap.size ≤ w2.heap.size; exact HXL.out) (.slice dA dn dc)).setCell (p := ⟨w2.heap.size, 2, none⟩) (by show w.heap.size ≤ w2.heap.size; exact HXL.out) (.slice eA en ec))
        have HRR := Lib.hid (tyLock.mr HMB.out fun b hb => (HFB.out b hb).1)
        have HIN9 := Lib.hid (inv_in HIE.out)
        have HST9 := Lib.hid (inv_stuck HIE.out)
        obtain ⟨z, hz⟩ : ∃ z, inD E = z := ⟨_, rfl⟩
        have HZ := Lib.hid hz
        clear hz
        go_wp2_with fail
        generalize (((wA.setCell ⟨w2.heap.size, 0, none⟩ (.int .i64 E.1)).setCell ⟨w2.heap.size, 1, none⟩ (.slice dA dn dc)).setCell ⟨w2.heap.size, 2, none⟩ (.slice eA en ec)) = wB at HRR BXB HMB HFB HBB ⊢
        refine (HIN.out HRR.out).mono ?_
        rw [HZ.out]
        rintro e w90 ⟨rfl, hb90⟩
        have hz1 : ¬ (1 < z) := by have h := HIN9.out; rw [HZ.out] at h; omega
        have hz2 : decide (1 < z) = false := decide_eq_false hz1
        have BX90 := Lib.hid (BXB.out.below hb90 BXB.out.lt)
        have HRR90 := Lib.hid (Ty.below_w HRR.out hb90)
        have HM90 := Lib.hid (Ty.mb HMB.out hb90 fun b hb => (HFB.out b hb).1)
        have HF90 := Lib.hid (show ∀ b ∈ fa, b < w90.heap.size ∧ b ≠ w2.heap.size from fun b hb => by have h1 := HFB.out b hb; have h2 := hb90.size; omega)
        have HB90 := Lib.hid (HBB.out.trans (hb90.mono HBB.out.size))
        clear hb90 x0 x1 x2 xl y0 y1 y2 yl f0 f1 f2
        have p0 := BX90.out.cell 0
        have p1 := BX90.out.cell 1
        have p2 := BX90.out.cell 2
        have pl := BX90.out.lt
        simp at p0 p1 p2
        go_wp2_with fail
        refine (HSTK.out HRR90.out).mono ?_
        rw [HST9.out]
        rintro e w91 ⟨rfl, hb91⟩
        have BX91 := Lib.hid (BX90.out.below hb91 BX90.out.lt)
        have HM91 := Lib.hid (Ty.mb HM90.out hb91 fun b hb => (HF90.out b hb).1)
        have HF91 := Lib.hid (show ∀ b ∈ fa, b < w91.heap.size ∧ b ≠ w2.heap.size from fun b hb => by have h1 := HF90.out b hb; have h2 := hb91.size; omega)
        have HB91 := Lib.hid (HB90.out.trans (hb91.mono HB90.out.size))
        clear hb91 p0 p1 p2 pl
        go_wp2_with fail
        go_roundw
        case rel => exact ⟨k + 1, E, dA, dn, dc, eA, en, ec, fa, by go_num, by omega, HIE.out, HLE.out, BX91.out, HM91.out, HF91.out, HB91.out, BX91.out.lt⟩
        case measure => simp [intOf]; omega
end
end Go.Proofs.Ytpnlmdnjpcjhjaa
