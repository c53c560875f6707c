/-
  The walk of FnLockEnds on drawn arguments.
-/
import Derived.Test.YtpnlmdnjpcjhjaaLDraw1
import Derived.Test.YtpnlmdnjpcjhjaaLDraw3
import Derived.Test.YtpnlmdnjpcjhjaaTqLock
import Derived.Test.YtpnlmdnjpcjhjaaLS2
import Derived.Test.YtpnlmdnjpcjhjaaLS6
import Derived.Test.YtpnlmdnjpcjhjaaLRow
import Derived.Test.YtpnlmdnjpcjhjaaKOpen
import Derived.Deep.DeepCutAuto
import Derived.Deep.CutBlock
namespace Go.Proofs.Ytpnlmdnjpcjhjaa
open Go.RowKit

section
variable {A : Option Addr} {n c : Nat} {w : World}
set_option maxHeartbeats 8000000 in
set_option maxRecDepth 100000 in
theorem dLockEnds_walk (hNew : KNew 20) (hRun : KRun 28) {A2 : Option Addr} {n2 c2 : Nat} (hc : Code w A n) (hcap : n ≤ c) (hcap2 : c ≤ maxLen) (hd : Code w A2 n2) (_hdcap : n2 ≤ c2) (_hdcap2 : c2 ≤ maxLen) : Calls Try.prog 10 #[.slice A n c, .slice A2 n2 c2] w fun e w' => e = .returned (.bool true) ∧ Below w.heap.size w w' := by
  have hn := hc.1
  unfold maxLen at hn
  have hn2 := hd.1
  unfold maxLen at hn2
  have HCODE := Lib.hid hc
  have HMORE := Lib.hid hd
  clear hc hd
  by_cases hbig : (1048576 : Int) < n
  · go_enter Try.func10, Try.ntmps10
    go_wp2_with fail
    go_ret
    exact ⟨rfl, Below.refl _ _⟩
  by_cases hbig2 : (1048576 : Int) < n2
  · go_enter Try.func10, Try.ntmps10
    go_wp2_with fail
    go_ret
    exact ⟨rfl, Below.refl _ _⟩
  have HNEW := Lib.hid hNew
  clear hNew
  have HRUN := Lib.hid hRun
  clear hRun
  have HW0 := Lib.hid (Below.refl w.heap.size w)
  go_enter Try.func10, Try.ntmps10
  have HA0 := Lib.hid (show Below w.heap.size w w from (Below.refl _ _))
  go_wp2_with fail
  refine (dDrawLockNew_any HCODE.out hcap hcap2).mono ?_
  rintro e w1 ⟨v0, v1, rfl, lo0, up0, lo1, up1, hb1⟩
  have HC1 := Lib.hid (HA0.out.trans (hb1.mono HA0.out.size))
  have HW1 := Lib.hid (HW0.out.trans (HC1.out.mono HW0.out.size))
  clear hb1
  generalize hDD : newL v0 v1 = DD
  generalize hBB : newB v0 v1 = BB
  have HDD := Lib.hid hDD
  have HBB := Lib.hid hBB
  clear hDD hBB
  have HA1 := Lib.hid (show Below w1.heap.size w1 w1 from (Below.refl _ _))
  go_wp2_with fail
  refine (HNEW.out v0 v1).mono ?_
  rintro e w2 ⟨y10, y11, y12, fq1, rfl, hm1, hf1, hs1, hb2⟩
  have HC2 := Lib.hid (HA1.out.trans (hb2.mono HA1.out.size))
  have HW2 := Lib.hid (HW1.out.trans (HC2.out.mono HW1.out.size))
  clear hb2
  rw [HDD.out] at hm1 hs1
  rw [HBB.out]
  have HMK1 := Lib.hid hm1
  have HFK1 := Lib.hid hf1
  obtain ⟨E1, m1, o1, F1, q1, r1, hcs⟩ := tyLock_shM hm1
  simp only [List.cons.injEq, and_true] at hcs
  obtain ⟨rfl, rfl, rfl⟩ := hcs
  have HQ1_2 := Lib.hid (tyLock.mr hm1 fun b hb => (hf1 b hb).2)
  have HS1 := Lib.hid hs1
  clear hm1 hf1 hs1
  have HA2 := Lib.hid (show Below w2.heap.size w2 (w2.alloc (.cells #[.int .i64 (DD).1, .slice E1 m1 o1, .slice F1 q1 r1] 28)) from ((Below.refl _ _).alloc (Nat.le_refl _) _))
  go_wp2_with fail
  refine (lockNew_any v0 v1).mono ?_
  rintro e w3 ⟨y20, y21, y22, fq2, rfl, hm2, hf2, hs2, hb3⟩
  have HC3 := Lib.hid (HA2.out.trans (hb3.mono HA2.out.size))
  have HW3 := Lib.hid (HW2.out.trans (HC3.out.mono HW2.out.size))
  have HQ1_3 := Lib.hid (Ty.below_w HQ1_2.out HC3.out)
  have X_3 := Lib.hid ((Box.new w2 #[.int .i64 (DD).1, .slice E1 m1 o1, .slice F1 q1 r1] 28).below hb3 (by simp only [World.size_alloc]; omega))
  clear hb3
  rw [HDD.out] at hm2 hs2
  rw [HBB.out]
  obtain ⟨E2, m2, o2, F2, q2, r2, hcs⟩ := tyLock_shM hm2
  simp only [List.cons.injEq, and_true] at hcs
  obtain ⟨rfl, rfl, rfl⟩ := hcs
  have HQ2_3 := Lib.hid (tyLock.mr hm2 fun b hb => (hf2 b hb).2)
  have HS2 := Lib.hid hs2
  clear hm2 hf2 hs2
  have HA3 := Lib.hid (show Below w3.heap.size w3 (w3.alloc (.cells #[.int .i64 (DD).1, .slice E2 m2 o2, .slice F2 q2 r2] 28)) from ((Below.refl _ _).alloc (Nat.le_refl _) _))
  have x_c0 := X_3.out.cell 0
  have x_c1 := X_3.out.cell 1
  have x_c2 := X_3.out.cell 2
  simp at x_c0 x_c1 x_c2
  have x_l := X_3.out.lt
  go_wp2_with fail
  refine (qdLock_t (Ty.below_w HQ1_3.out HA3.out) (Ty.below_w HQ2_3.out HA3.out)).mono ?_
  rintro e w4 ⟨rfl, hb4⟩
  clear x_c0 x_c1 x_c2 x_l
  have HC4 := Lib.hid (HA3.out.trans (hb4.mono HA3.out.size))
  have HW4 := Lib.hid (HW3.out.trans (HC4.out.mono HW3.out.size))
  have HQ1_4 := Lib.hid (Ty.below_w HQ1_3.out HC4.out)
  have HQ2_4 := Lib.hid (Ty.below_w HQ2_3.out HC4.out)
  have X_4 := Lib.hid (X_3.out.below HC4.out X_3.out.lt)
  have Y_4 := Lib.hid ((Box.new w3 #[.int .i64 (DD).1, .slice E2 m2 o2, .slice F2 q2 r2] 28).below hb4 (by simp only [World.size_alloc]; omega))
  clear hb4
  cases BB
  case false =>
    have HA4 := Lib.hid (show Below w4.heap.size w4 w4 from (Below.refl _ _))
    have x_c0 := X_4.out.cell 0
    have x_c1 := X_4.out.cell 1
    have x_c2 := X_4.out.cell 2
    have y_c0 := Y_4.out.cell 0
    have y_c1 := Y_4.out.cell 1
    have y_c2 := Y_4.out.cell 2
    simp at x_c0 x_c1 x_c2 y_c0 y_c1 y_c2
    have x_l := X_4.out.lt
    have y_l := Y_4.out.lt
    go_wp2_with fail
    refine (qdLock_t (Ty.below_w HQ1_4.out HA4.out) (Ty.below_w HQ2_4.out HA4.out)).mono ?_
    rintro e w5 ⟨rfl, hb5⟩
    clear x_c0 x_c1 x_c2 y_c0 y_c1 y_c2 x_l y_l
    have HC5 := Lib.hid (HA4.out.trans (hb5.mono HA4.out.size))
    have HW5 := Lib.hid (HW4.out.trans (HC5.out.mono HW4.out.size))
    have HQ1_5 := Lib.hid (Ty.below_w HQ1_4.out HC5.out)
    have HQ2_5 := Lib.hid (Ty.below_w HQ2_4.out HC5.out)
    have X_5 := Lib.hid (X_4.out.below HC5.out X_4.out.lt)
    have Y_5 := Lib.hid (Y_4.out.below HC5.out Y_4.out.lt)
    clear hb5
    have HA5 := Lib.hid (show Below w5.heap.size w5 w5 from (Below.refl _ _))
    have x_c0 := X_5.out.cell 0
    have x_c1 := X_5.out.cell 1
    have x_c2 := X_5.out.cell 2
    have y_c0 := Y_5.out.cell 0
    have y_c1 := Y_5.out.cell 1
    have y_c2 := Y_5.out.cell 2
    simp at x_c0 x_c1 x_c2 y_c0 y_c1 y_c2
    have x_l := X_5.out.lt
    have y_l := Y_5.out.lt
    go_wp2_with fail
    go_ret
    exact ⟨rfl, HW5.out⟩
  have HINV := Lib.hid (show LInv DD from by rw [← HDD.out]; unfold newL; rw [if_pos HBB.out]; exact new_inv HBB.out)
  obtain ⟨K, hK⟩ : ∃ K : Nat, v0 = (K : Int) := ⟨v0.toNat, by omega⟩
  subst hK
  have hK14 : 1 ≤ K ∧ K ≤ 4 := by
    have h := HBB.out
    unfold newB at h
    rw [Bool.and_eq_true] at h
    have := of_inB h.1
    omega
  have HK14 := Lib.hid hK14
  have HLEN := Lib.hid (show DD.2.1.length = K from by
    rw [← HDD.out]
    unfold newL
    rw [if_pos HBB.out, Int.toNat_natCast]
    unfold newLk
    simp)
  have HMX := Lib.hid (Ty.mb HMK1.out (HC3.out.trans (HC4.out.mono HC3.out.size)) fun b hb => (HFK1.out b hb).2)
  have HFX := Lib.hid (show ∀ b ∈ fq1, b < w4.heap.size ∧ b ≠ w2.heap.size from fun b hb => by have h1 := (HFK1.out b hb).2; have h2 := (HC3.out.trans (HC4.out.mono HC3.out.size)).size; omega)
  have x_c0 := X_4.out.cell 0
  have x_c1 := X_4.out.cell 1
  have x_c2 := X_4.out.cell 2
  have y_c0 := Y_4.out.cell 0
  have y_c1 := Y_4.out.cell 1
  have y_c2 := Y_4.out.cell 2
  simp at x_c0 x_c1 x_c2 y_c0 y_c1 y_c2
  have x_l := X_4.out.lt
  have y_l := Y_4.out.lt
  obtain ⟨i0, hi0, hz0, hz1, hz2⟩ := infoInt
  have HIN := Lib.hid hi0
  have HZ0 := Lib.hid hz0
  have HZ1 := Lib.hid hz1
  have HZ2 := Lib.hid hz2
  clear hi0 hz0 hz1 hz2
  go_upto_region 9 with fail
  have HNIL := Lib.hid (show OwnE elI 3 (w4.alloc (.cells #[] 3)) w4.heap.size (.slice (some ⟨w4.heap.size, 0, none⟩) 0 0) [] from own_nil (Box.new w4 #[] 3) (Nat.le_refl _))
  have HAL := Lib.hid ((Below.refl w4.heap.size w4).alloc (Nat.le_refl _) (.cells #[] 3))
  generalize w4.alloc (.cells #[] 3) = wz at HNIL HAL ⊢
  obtain ⟨B, hBB9⟩ : ∃ B, w4.heap.size = B := ⟨_, rfl⟩
  rw [hBB9] at HNIL HAL
  simp only [hBB9]
  have HBE := Lib.hid hBB9
  have HBW := Lib.hid (show B ≤ w4.heap.size by omega)
  have HCW := Lib.hid (HMORE.out.below HW4.out)
  clear hBB9 x_c0 x_c1 x_c2 y_c0 y_c1 y_c2 x_l y_l
  go_upto_block 0 with fail
  go_cut [11] (fun out wx => ∃ (b d : Nat) (L : List Int), out = .slice (some ⟨b, 0, none⟩) L.length d ∧ L.length ≤ 200 ∧ OwnE elI 3 wx B (.slice (some ⟨b, 0, none⟩) L.length d) L ∧ Below B w4 wx)
  case first =>
    go_wp2_with fail
    go_loopw [11, 12] (fun out i wr => ∃ (k b d : Nat) (L : List Int), i = .int .i64 k ∧ out = .slice (some ⟨b, 0, none⟩) L.length d ∧ L.length = k ∧ k ≤ 200 ∧ OwnE elI 3 wr B (.slice (some ⟨b, 0, none⟩) L.length d) L ∧ Below B w4 wr) (fun _ i _ => 200 - (intOf i).toNat)
    case atStart => exact ⟨0, B, 0, [], rfl, rfl, rfl, by omega, HNIL.out, HAL.out⟩
    case round =>
      obtain ⟨m, b, d, L, rfl, rfl, hlk, hk, ho, hb⟩ := hrel
      rename World => wr1
      rw [hlk] at ho ⊢
      have HO := Lib.hid ho
      have HBR := Lib.hid hb
      have HM := Lib.hid hlk
      have hnn2 : n2 ≤ 1048576 := by omega
      clear ho hb hlk
      by_cases hkn : m < n2
      case neg =>
        have h1 : ¬ ((m : Int) < n2) := by omega
        have h2 : decide ((m : Int) < n2) = false := decide_eq_false h1
        go_wp2_with fail
        go_meet
        exact ⟨b, d, L, by rw [HM.out], by rw [HM.out]; exact hk, by rw [HM.out]; exact HO.out, HBR.out⟩
      by_cases hk2 : m < 200
      case neg =>
        have h1 : decide ((m : Int) < n2) = true := decide_eq_true (by omega)
        have h2 : ¬ ((m : Int) < 200) := by omega
        have h3 : decide ((m : Int) < 200) = false := decide_eq_false h2
        go_wp2_with fail
        go_meet
        exact ⟨b, d, L, by rw [HM.out], by rw [HM.out]; exact hk, by rw [HM.out]; exact HO.out, HBR.out⟩
      obtain ⟨cb, co, rfl, hcb, hcell⟩ := HCW.out.2 (by omega)
      obtain ⟨v, hv0, hv1, hv2⟩ := hcell m hkn
      have hcl := (kc (HBR.out.mono (Nat.le_refl _)) _ _ (show cb < B by rw [← HBE.out]; exact hcb)).trans hv0
      obtain ⟨V, rfl⟩ : ∃ V : Nat, v = V := ⟨v.toNat, by omega⟩
      have h1 : (m : Int) < n2 := by omega
      have h2 : (m : Int) < 200 := by omega
      have h3 : (0 : Int) ≤ m := by omega
      have hwv : IntKind.i64.wrap (V : Int) = (V : Int) := IntWalk.i64_in _ (by omega)
      have hKN : ¬ (K = 0) := by omega
      obtain ⟨i, hi⟩ : ∃ i : Nat, V % K = i := ⟨_, rfl⟩
      have hmt : (V : Int).tmod (K : Int) = (i : Int) := by rw [← hi]; rfl
      have hmod : (V : Int) % (K : Int) = (i : Int) := by rw [← hi, Int.natCast_emod]
      clear hcell hi hv0
      have hBs : B ≤ wr1.heap.size := Nat.le_trans HBW.out HBR.out.size
      have HO5 := Lib.hid (HO.out.below ((Below.refl wr1.heap.size wr1).alloc (Nat.le_refl _) (.cells #[.int .i64 (i : Int)] 3)))
      have HN5 := Lib.hid (Box.new wr1 #[.int .i64 (i : Int)] 3)
      have HS5 := Lib.hid (show (wr1.alloc (.cells #[.int .i64 (i : Int)] 3)).heap.size = wr1.heap.size + 1 from World.size_alloc ..)
      have HB5 := Lib.hid (HBR.out.alloc hBs (.cells #[.int .i64 (i : Int)] 3))
      go_wp2_with (at_builtin
                   refine wpList_append_lies _ rfl (.tmp 74) (.tmp 82) 26 rfl B 3 i0 (.int .i64 0) 1 8 Try.underlying26 HIN.out HZ0.out HZ1.out HZ2.out rfl (by decide) (.slice (some ⟨b, 0, none⟩) m d) m (L.flatMap elI.C) ?hs ?hown ⟨wr1.heap.size, 0, none⟩ 1 1 [.int .i64 (i : Int)] ?hx rfl ?hnews ?hone (by decide) ?h63 ?hby ?hba (wr1.heap.size + 1) ?hH ?_
                   case hs => rfl
                   case hown => have h := HO5.out; unfold OwnE at h; rw [HM.out] at h; exact h
                   case hx => rfl
                   case hnews => exact World.news_of_block HN5.out
                   case hone => intro u hu; rw [List.mem_singleton.1 hu]; rfl
                   case h63 => simp only [maxLen]; omega
                   case hby => omega
                   case hba => have := HS5.out; omega
                   case hH => exact HS5.out
                   intro b9 cap w9 hown hgr hat hlt
                   have HO9 := Lib.hid (show OwnE elI 3 w9 B (.slice (some ⟨b9, 0, none⟩) (L ++ [(i : Int)]).length cap) (L ++ [(i : Int)]) from by
                     unfold OwnE
                     rw [List.length_append, HM.out, List.flatMap_append]
                     exact hown)
                   have HB9 := Lib.hid (HB5.out.trans ((Below.refl B (wr1.alloc (.cells #[.int .i64 (i : Int)] 3))).grown hgr (by have := HS5.out; omega) (fun j e => (HO5.out.ltv j e).1)))
                   clear hown hgr hat hlt)
      go_roundw
      case rel => exact ⟨m + 1, b9, cap, L ++ [(i : Int)], by go_num, by rw [List.length_append, HM.out]; rfl, by rw [List.length_append, HM.out]; rfl, by omega, HO9.out, HB9.out⟩
      case measure => simp [intOf]; omega
  case rest =>
    obtain ⟨b1, d1, L1, rfl, hl1, ho1, hb1⟩ := hcut
    rename World => wq
    have HO1 := Lib.hid ho1
    have HB1 := Lib.hid hb1
    obtain ⟨p, hp⟩ : ∃ p, L1.length = p := ⟨_, rfl⟩
    have HP := Lib.hid hp
    rw [hp] at hl1
    clear ho1 hb1 hp
    have hw2 : IntKind.i64.wrap (200 * (K : Int)) = 200 * (K : Int) := IntWalk.i64_in _ (by omega)
    have hKN : ¬ (K = 0) := by omega
    go_wp2_with fail
    go_loopw [11, 13] (fun out i wr => ∃ (k b d : Nat) (L : List Int), i = .int .i64 k ∧ out = .slice (some ⟨b, 0, none⟩) L.length d ∧ L.length = p + k ∧ k ≤ 200 * K ∧ (∀ q, q < k → L.getD (p + q) 0 = ((q % K : Nat) : Int)) ∧ OwnE elI 3 wr B (.slice (some ⟨b, 0, none⟩) L.length d) L ∧ Below B w4 wr) (fun _ i _ => 200 * K - (intOf i).toNat)
    case atStart => exact ⟨0, b1, d1, L1, rfl, rfl, HP.out, by omega, fun q h => absurd h (Nat.not_lt_zero q), HO1.out, HB1.out⟩
    case round =>
      obtain ⟨k, b, d, L, rfl, rfl, hlk, hk, hgl, ho, hb⟩ := hrel
      rename World => wr1
      obtain ⟨m, hm⟩ : ∃ m, L.length = m := ⟨_, rfl⟩
      have HGL := Lib.hid hgl
      have HM := Lib.hid hm
      rw [hm] at ho hlk ⊢
      have HO := Lib.hid ho
      have HBR := Lib.hid hb
      have HLK := Lib.hid hlk
      have hm48 : m ≤ 1000 := by omega
      clear ho hb hm hgl hlk
      have h3 : (0 : Int) ≤ k := by omega
      by_cases hkK : k < 200 * K
      case pos =>
        have h1 : (k : Int) < 200 * (K : Int) := by omega
        obtain ⟨i, hi⟩ : ∃ i : Nat, k % K = i := ⟨_, rfl⟩
        have HI := Lib.hid hi
        have hmt : (k : Int).tmod (K : Int) = (i : Int) := by rw [← hi]; rfl
        have hmod : (k : Int) % (K : Int) = (i : Int) := by rw [← hi, Int.natCast_emod]
        clear hi
        have hBs : B ≤ wr1.heap.size := Nat.le_trans HBW.out HBR.out.size
        have HO5 := Lib.hid (HO.out.below ((Below.refl wr1.heap.size wr1).alloc (Nat.le_refl _) (.cells #[.int .i64 (i : Int)] 3)))
        have HN5 := Lib.hid (Box.new wr1 #[.int .i64 (i : Int)] 3)
        have HS5 := Lib.hid (show (wr1.alloc (.cells #[.int .i64 (i : Int)] 3)).heap.size = wr1.heap.size + 1 from World.size_alloc ..)
        have HB5 := Lib.hid (HBR.out.alloc hBs (.cells #[.int .i64 (i : Int)] 3))
        go_wp2_with (at_builtin
                     refine wpList_append_lies _ rfl (.tmp 90) (.tmp 94) 26 rfl B 3 i0 (.int .i64 0) 1 8 Try.underlying26 HIN.out HZ0.out HZ1.out HZ2.out rfl (by decide) (.slice (some ⟨b, 0, none⟩) m d) m (L.flatMap elI.C) ?hs ?hown ⟨wr1.heap.size, 0, none⟩ 1 1 [.int .i64 (i : Int)] ?hx rfl ?hnews ?hone (by decide) ?h63 ?hby ?hba (wr1.heap.size + 1) ?hH ?_
                     case hs => rfl
                     case hown => have h := HO5.out; unfold OwnE at h; rw [HM.out] at h; exact h
                     case hx => rfl
                     case hnews => exact World.news_of_block HN5.out
                     case hone => intro u hu; rw [List.mem_singleton.1 hu]; rfl
                     case h63 => simp only [maxLen]; omega
                     case hby => omega
                     case hba => have := HS5.out; omega
                     case hH => exact HS5.out
                     intro b9 cap w9 hown hgr hat hlt
                     have HO9 := Lib.hid (show OwnE elI 3 w9 B (.slice (some ⟨b9, 0, none⟩) (L ++ [(i : Int)]).length cap) (L ++ [(i : Int)]) from by
                       unfold OwnE
                       rw [List.length_append, HM.out, List.flatMap_append]
                       exact hown)
                     have HB9 := Lib.hid (HB5.out.trans ((Below.refl B (wr1.alloc (.cells #[.int .i64 (i : Int)] 3))).grown hgr (by have := HS5.out; omega) (fun j e => (HO5.out.ltv j e).1)))
                     clear hown hgr hat hlt)
        go_roundw
        case rel =>
          refine ⟨k + 1, b9, cap, L ++ [(i : Int)], by go_num, by rw [List.length_append, HM.out]; rfl, by rw [List.length_append, HM.out, List.length_singleton]; have := HLK.out; omega, by omega, fun q hq => ?_, HO9.out, HB9.out⟩
          by_cases e : q = k
          · subst e
            rw [List.getD_eq_getElem?_getD, List.getElem?_append_right (by rw [HM.out]; have := HLK.out; omega), HM.out, show p + q - m = 0 by have := HLK.out; omega, HI.out]
            rfl
          · rw [List.getD_eq_getElem?_getD, List.getElem?_append_left (by rw [HM.out]; have := HLK.out; omega), ← List.getD_eq_getElem?_getD]
            exact HGL.out q (by omega)
        case measure => simp [intOf]; omega
      obtain rfl : k = 200 * K := by omega
      have h1 : ¬ (((200 * K : Nat) : Int) < 200 * (K : Int)) := by omega
      have h1b : decide (((200 * K : Nat) : Int) < 200 * (K : Int)) = false := decide_eq_false h1
      have HBE2 := Lib.hid (show Below w4.heap.size w4 wr1 from by rw [HBE.out]; exact HBR.out)
      have BX := Lib.hid (X_4.out.below HBE2.out X_4.out.lt)
      have HRE := Lib.hid (Ty.below_w HQ1_4.out HBE2.out)
      have HSM := Lib.hid (small_ok HINV.out.ok)
      have p0 := BX.out.cell 0
      have p1 := BX.out.cell 1
      have p2 := BX.out.cell 2
      have pl := BX.out.lt
      simp at p0 p1 p2
      obtain ⟨D1, hD1⟩ : ∃ X : Lk, runL DD L = X := ⟨_, rfl⟩
      obtain ⟨r, hr⟩ : ∃ X : Int, runN DD L = X := ⟨_, rfl⟩
      have HEND := Lib.hid (ends_law (L := L) (p := p) HINV.out (by rw [HM.out, HLEN.out]; exact HLK.out) (fun q hq => by rw [HLEN.out] at hq ⊢; exact HGL.out q hq))
      rw [hD1, hr, HLEN.out] at HEND
      have HD1 := Lib.hid hD1
      have HR1 := Lib.hid hr
      clear hD1 hr
      go_wp2_with fail
      refine (HRUN.out HRE.out HSM.out.1 (OwnE.rowF HO.out) HM.out (by omega)).mono ?_
      rw [HD1.out, HR1.out]
      rintro e w80 ⟨a0, a1, a2, fa, rfl, hm9, hf9, hsm9, hb9⟩
      obtain ⟨g1, g2, g3, g4, g5, g6⟩ := HEND.out
      obtain ⟨A1, n1, c1, A3, n3, c3, hcs, ⟨l1, _, r1⟩, ⟨l2, _, _⟩⟩ := tyLock_R (tyLock.mr hm9 fun b hb => (hf9 b hb).2)
      simp only [List.cons.injEq, and_true] at hcs
      obtain ⟨rfl, rfl, rfl⟩ := hcs
      rw [g4] at l2
      obtain rfl : n3 = 0 := l2.symm
      obtain rfl : n1 = K := by omega
      rw [g3]
      have HROW := Lib.hid (rowL r1)
      have HALL := Lib.hid g6
      have h9 : decide (0 ≤ r) = true := decide_eq_true g2
      have HBF := Lib.hid (HW4.out.trans ((HBE2.out.trans (hb9.mono HBE2.out.size)).mono HW4.out.size))
      clear hm9 hf9 hsm9 hb9 l1 l2 r1 p0 p1 p2 pl
      go_upto_region 18 with fail
      have BYE := Lib.hid (Box.new w80 #[.int .i64 0, .slice A1 n1 c1, .slice A3 0 c3] 28)
      have HAE := Lib.hid ((Below.refl w80.heap.size w80).alloc (Nat.le_refl _) (.cells #[.int .i64 0, .slice A1 n1 c1, .slice A3 0 c3] 28))
      generalize w80.alloc (.cells #[.int .i64 0, .slice A1 n1 c1, .slice A3 0 c3] 28) = wE at BYE HAE ⊢
      have HBG := Lib.hid (HBF.out.trans (HAE.out.mono HBF.out.size))
      have y0 := BYE.out.cell 0
      have y1 := BYE.out.cell 1
      have y2 := BYE.out.cell 2
      have yl := BYE.out.lt
      simp at y0 y1 y2
      go_wp2_with fail
      go_loopw [16] (fun i wr => ∃ q : Nat, i = .int .i64 q ∧ q ≤ n1 ∧ wr = wE) (fun i _ => n1 - (intOf i).toNat)
      case atStart => exact ⟨0, rfl, Nat.zero_le _, rfl⟩
      case round =>
        obtain ⟨q, rfl, hq, rfl⟩ := hrel
        by_cases hlt : q < n1
        · obtain ⟨tb, tof, rfl, htb, hc⟩ := HROW.out (by omega)
          have hq1 : (q : Int) < n1 := by omega
          have hq2 : (0 : Int) ≤ q := by omega
          obtain ⟨t0, _, t2, _⟩ := hc q hlt
          obtain ⟨z2, z0⟩ := HALL.out q hlt
          rw [show (D1.2.1.getD q thZ).f0 = 0 from z0] at t0
          rw [show (D1.2.1.getD q thZ).f2 = 0 from z2] at t2
          have s0 := (kc HAE.out _ _ htb).trans t0
          have s2 := (kc HAE.out _ _ htb).trans t2
          clear hc t0 t2
          go_wp2_with fail
          go_roundw
          case rel => exact ⟨q + 1, by go_num, by omega, by first | rfl | trivial⟩
          case measure => simp [intOf]; omega
        · obtain rfl : q = n1 := by omega
          go_wp2_with fail
          go_ret
          exact ⟨rfl, HBG.out⟩
end
end Go.Proofs.Ytpnlmdnjpcjhjaa
