/-
  The model's LockAll.
-/
import Derived.Test.YtpmigekejipohaaLGrow
import Derived.Test.YtpmigekejipohaaLS4
import Derived.Deep.DeepCutAuto
import Derived.Deep.CutBlock
namespace Go.Proofs.Ytpmigekejipohaa
open Go.RowKit

theorem infoLock : ∃ i, Try.prog.info? 28 = some i ∧ i.zero = some (.agg #[.int .i64 0, .slice none 0 0, .slice none 0 0]) ∧ i.size = 3 ∧ i.bytes = 56 := info_parts (by kernel_rfl : (Try.prog.info? 28).map (fun i => (i.zero, i.size, i.bytes)) = some (some (.agg #[.int .i64 0, .slice none 0 0, .slice none 0 0]), 3, 56))
def allB (n t : Int) : Bool := inB n 1 3 && (inB t 1 2 && !(decide (n = 3) && decide (t = 2)))
/-- what LockAll answers -/
def KAll (f : Nat) : Prop := ∀ ⦃w : World⦄ (n t : Int),
  Calls Try.prog f #[.int .i64 n, .int .i64 t] w fun e w' => (allB n t = false → e = .returned (.tuple #[.int .i64 0, .int .i64 0, .bool false, .bool false])) ∧
    (allB n t = true → ∃ i : Nat, EndsAt (newLk n.toNat t) n.toNat i ∧ e = .returned (.tuple #[.int .i64 i, .int .i64 (mostTo (bfs (newLk n.toNat t) n.toNat i) i), .bool false, .bool true])) ∧ Below w.heap.size w w'
set_option maxHeartbeats 4000000 in
theorem lockAll_off {w : World} {n t : Int} (h : allB n t = false) : Calls Try.prog 38 #[.int .i64 n, .int .i64 t] w fun e w' => e = .returned (.tuple #[.int .i64 0, .int .i64 0, .bool false, .bool false]) ∧ Below w.heap.size w w' := by
  obtain ⟨b1, h1⟩ : ∃ b, inB n 1 3 = b := ⟨_, rfl⟩
  obtain ⟨b2, h2⟩ : ∃ b, inB t 1 2 = b := ⟨_, rfl⟩
  unfold allB at h
  rw [h1, h2] at h
  have H1 := Lib.hid h1
  have H2 := Lib.hid h2
  clear h1 h2
  cases b1
  · go_enter Try.func38, Try.ntmps38
    go_wp2_with fail
    refine (l6In_any n 1 3 _).mono ?_
    rw [H1.out]
    rintro e w9 ⟨rfl, rfl⟩
    go_wp2_with fail
    exact bodyPost_ret (v := .tuple #[.int .i64 0, .int .i64 0, .bool false, .bool false]) (by simp [results, Try.results38, go_sem]) rfl ⟨rfl, Below.refl _ _⟩
  cases b2
  · go_enter Try.func38, Try.ntmps38
    go_wp2_with fail
    refine (l6In_any n 1 3 _).mono ?_
    rw [H1.out]
    rintro e w9 ⟨rfl, rfl⟩
    go_wp2_with fail
    refine (l6In_any t 1 2 _).mono ?_
    rw [H2.out]
    rintro e w9 ⟨rfl, rfl⟩
    go_wp2_with fail
    exact bodyPost_ret (v := .tuple #[.int .i64 0, .int .i64 0, .bool false, .bool false]) (by simp [results, Try.results38, go_sem]) rfl ⟨rfl, Below.refl _ _⟩
  · have h3 : n = 3 ∧ t = 2 := by simpa using h
    obtain ⟨rfl, rfl⟩ := h3
    clear h
    go_enter Try.func38, Try.ntmps38
    go_wp2_with fail
    refine (l6In_any 3 1 3 _).mono ?_
    rw [H1.out]
    rintro e w9 ⟨rfl, rfl⟩
    go_wp2_with fail
    refine (l6In_any 2 1 2 _).mono ?_
    rw [H2.out]
    rintro e w9 ⟨rfl, rfl⟩
    go_wp2_with fail
    exact bodyPost_ret (v := .tuple #[.int .i64 0, .int .i64 0, .bool false, .bool false]) (by simp [results, Try.results38, go_sem]) rfl ⟨rfl, Below.refl _ _⟩
set_option maxHeartbeats 8000000 in
set_option maxRecDepth 100000 in
theorem lockAll_on {w : World} {n : Nat} {t : Int} (h : allB n t = true) : Calls Try.prog 38 #[.int .i64 n, .int .i64 t] w fun e w' => ∃ i : Nat, EndsAt (newLk n t) n i ∧ e = .returned (.tuple #[.int .i64 i, .int .i64 (mostTo (bfs (newLk n t) n i) i), .bool false, .bool true]) ∧ Below w.heap.size w w' := by
  unfold allB at h
  rw [Bool.and_eq_true, Bool.and_eq_true] at h
  have H1 := Lib.hid h.1
  have H2 := Lib.hid h.2.1
  have hr1 := of_inB h.1
  have hr2 := of_inB h.2.1
  have h3 : ¬ ((n : Int) = 3 ∧ t = 2) := fun e => by have := h.2.2; rw [e.1, e.2] at this; simp at this
  have HNB := Lib.hid (show newB n t = true from by unfold newB; rw [inB_of (by omega), inB_of (by omega)]; rfl)
  have HNL := Lib.hid (show newL n t = newLk n t from by unfold newL; rw [if_pos HNB.out, Int.toNat_natCast])
  have HINV := Lib.hid (show LInv (newLk n t) from by have := new_inv HNB.out; rwa [Int.toNat_natCast] at this)
  have HLEN := Lib.hid (show (newLk n t).2.1.length = n from by show (List.replicate n _).length = n; rw [List.length_replicate])
  clear h
  go_enter Try.func38, Try.ntmps38
  go_upto_region 1 with fail
  go_cut [33] (fun v wx => v = .bool false ∧ w = wx)
  case first =>
    by_cases hn3 : (n : Int) = 3
    case pos =>
      have ht2 : ¬ t = 2 := fun e => h3 ⟨hn3, e⟩
      have e2 : (t == 2) = false := by rw [beq_eq_false_iff_ne]; exact ht2
      obtain rfl : n = 3 := by omega
      clear hn3 h3
      go_wp2_with fail
      refine (l6In_any 3 1 3 _).mono ?_
      rw [show inB 3 1 3 = true from H1.out]
      rintro e w9 ⟨rfl, rfl⟩
      go_wp2_with fail
      refine (l6In_any t 1 2 _).mono ?_
      rw [H2.out]
      rintro e w9 ⟨rfl, rfl⟩
      go_wp2_with fail
      go_meet
      exact ⟨rfl, rfl⟩
    have e3 : ((n : Int) == 3) = false := by rw [beq_eq_false_iff_ne]; exact hn3
    go_wp2_with fail
    refine (l6In_any n 1 3 _).mono ?_
    rw [H1.out]
    rintro e w9 ⟨rfl, rfl⟩
    go_wp2_with fail
    refine (l6In_any t 1 2 _).mono ?_
    rw [H2.out]
    rintro e w9 ⟨rfl, rfl⟩
    go_wp2_with fail
    go_meet
    exact ⟨rfl, rfl⟩
  case rest =>
  obtain ⟨rfl, rfl⟩ := hcut
  go_wp2_with fail
  refine (lockNew_any n t).mono ?_
  rw [HNB.out, HNL.out]
  rintro e w1 ⟨y0, y1, y2, fp, rfl, hm, hf, hsm, hb⟩
  obtain ⟨A1, n1, c1, A2, n2, c2, hcs⟩ := tyLock_shM hm
  simp only [List.cons.injEq, and_true] at hcs
  obtain ⟨rfl, rfl, rfl⟩ := hcs
  have HM := Lib.hid (tyLock.mframe hm fun b hb => ((Below.refl w1.heap.size w1).alloc (Nat.le_refl _) (.cells #[.int .i64 (newLk n t).1, .slice A1 n1 c1, .slice A2 n2 c2] 28)).block b (hf b hb).2)
  have HF := Lib.hid (show ∀ b ∈ fp, b < (w1.alloc (.cells #[.int .i64 (newLk n t).1, .slice A1 n1 c1, .slice A2 n2 c2] 28)).heap.size from fun b hb => by rw [World.size_alloc]; have := (hf b hb).2; omega)
  have HB1 := Lib.hid (hb.alloc hb.size (.cells #[.int .i64 (newLk n t).1, .slice A1 n1 c1, .slice A2 n2 c2] 28))
  have HX := Lib.hid (Box.new w1 #[.int .i64 (newLk n t).1, .slice A1 n1 c1, .slice A2 n2 c2] 28)
  clear hm hf hb hsm
  go_upto_region 4 with fail
  generalize w1.alloc (.cells #[.int .i64 (newLk n t).1, .slice A1 n1 c1, .slice A2 n2 c2] 28) = w2 at HM HF HB1 HX ⊢
  have x0 := HX.out.cell 0
  have x1 := HX.out.cell 1
  have x2 := HX.out.cell 2
  have xl := HX.out.lt
  simp at x0 x1 x2
  obtain ⟨B, hB⟩ : ∃ B, w2.heap.size = B := ⟨_, rfl⟩
  have HO := Lib.hid (OwnL.one (B := w.heap.size) HM.out HF.out HB1.out.size)
  have HB2 := Lib.hid (HB1.out.alloc HB1.out.size (.cells #[.int .i64 (newLk n t).1, .slice A1 n1 c1, .slice A2 n2 c2] 28))
  go_upto_region 5 with fail
  generalize w2.alloc (.cells #[.int .i64 (newLk n t).1, .slice A1 n1 c1, .slice A2 n2 c2] 28) = w3 at HO HB2 ⊢
  rw [hB] at HO
  clear x0 x1 x2 xl HX HM HF HB1 hB
  obtain ⟨D, hD⟩ : ∃ D, newLk n t = D := ⟨_, rfl⟩
  rw [hD] at HO HINV HLEN
  rw [hD]
  go_wp2_with fail
  go_loopw [10, 11, 12, 13] (fun all most stuck i wr => ∃ (k b c : Nat) (xs : List Value), i = .int .i64 k ∧ all = .slice (some ⟨b, 0, none⟩) (bfs D n k).length c ∧ most = .int .i64 (mostTo (bfs D n k) k) ∧ stuck = .bool false ∧ k ≤ (bfs D n k).length ∧ (∀ j, j < k → j < (bfs D n j).length) ∧ OwnL wr w.heap.size (.slice (some ⟨b, 0, none⟩) (bfs D n k).length c) (bfs D n k) xs ∧ Below w.heap.size w wr) (fun _ _ _ i _ => 1529495101875 - (intOf i).toNat)
  case atStart => exact ⟨0, B, 1, _, rfl, rfl, rfl, rfl, by simp [bfs], fun j h => absurd h (Nat.not_lt_zero j), HO.out, HB2.out⟩
  case round =>
    obtain ⟨k, b, c, xs, rfl, rfl, rfl, rfl, hkl, hrun, ho, hb⟩ := hrel
    rename World => v1
    have HO1 := Lib.hid ho
    have HBV := Lib.hid hb
    have HRUN := Lib.hid hrun
    have HG := Lib.hid (bfs_good HINV.out HLEN.out hrun)
    have hM := good_len HG.out
    obtain ⟨l, hl⟩ : ∃ l, bfs D n k = l := ⟨_, rfl⟩
    have HLB := Lib.hid hl
    rw [hl] at hkl ho HO1 HG hM ⊢
    obtain ⟨m, hm⟩ : ∃ m, l.length = m := ⟨_, rfl⟩
    have HML := Lib.hid hm
    rw [hm] at hkl HO1 hM ⊢
    obtain ⟨mo, hmo⟩ : ∃ mo, mostTo l k = mo := ⟨_, rfl⟩
    have HMO := Lib.hid hmo
    rw [hmo]
    clear ho hb hrun hl hm hmo HO HB2
    by_cases hkm : k < m
    case neg =>
      obtain rfl : k = m := by omega
      have hkk : ¬ ((k : Int) < k) := by omega
      go_wp2_with fail
      exact bodyPost_ret (v := .tuple #[.int .i64 k, .int .i64 mo, .bool false, .bool true]) (by simp [results, Try.results38, go_sem]) rfl ⟨k, ⟨by rw [HLB.out]; exact HML.out, HRUN.out⟩, by rw [HLB.out, HMO.out], HBV.out⟩
    have hk1 : (k : Int) < m := by omega
    have hk2 : (0 : Int) ≤ k := by omega
    obtain ⟨Dk, hDk⟩ : ∃ X, l.getD k lkZ = X := ⟨_, rfl⟩
    have HDK := Lib.hid hDk
    have HGK := Lib.hid (show LInv Dk ∧ Dk.2.1.length = n from by rw [← hDk]; exact HG.out.inv _ (getD_mem (by rw [HML.out]; exact hkm)))
    have HLK := Lib.hid (show stuckB Dk = false from by
      have h1 := inv_stuck HGK.out.1
      unfold stkB at h1
      rw [inv_ok HGK.out.1, Bool.true_and] at h1
      exact h1)
    have HSK := Lib.hid (small_ok HGK.out.1.ok)
    obtain ⟨z, hz⟩ : ∃ z, inTo Dk Dk.2.1.length = z := ⟨_, rfl⟩
    have HZ := Lib.hid hz
    have hz01 : 0 ≤ z ∧ z ≤ 1 := by rw [← hz]; exact ⟨inTo_nn.1, inTo_one HGK.out.1 (Nat.le_refl _)⟩
    have hmo1 : 0 ≤ mo ∧ mo ≤ 1 := by rw [← HMO.out]; exact most_le HG.out (by rw [HML.out]; exact hkl)
    have HMS := Lib.hid (show mostTo l (k + 1) = max mo z from by show max (mostTo l k) _ = _; rw [HMO.out, hDk, hz])
    obtain ⟨s0, s1, s2, t0, t1, t2, hsr⟩ := OwnL.get HO1.out HML.out.symm hkm
    rw [hDk] at hsr
    have HSR := Lib.hid hsr
    have tl : b < v1.heap.size := (HO1.out.own.lt b rfl).2
    clear hz hDk hsr
    go_wp2_with fail
    refine (l12In_any HSR.out).mono ?_
    rw [HZ.out]
    rintro e v2 ⟨rfl, hb2⟩
    have HO2 := Lib.hid (HO1.out.keep hb2)
    have HSR2 := Lib.hid (Ty.below_w HSR.out hb2)
    have HBV2 := Lib.hid (HBV.out.trans (hb2.mono HBV.out.size))
    have r0 := (kc hb2 _ _ tl).trans t0
    have r1 := (kc hb2 _ _ tl).trans t1
    have r2 := (kc hb2 _ _ tl).trans t2
    have rl : b < v2.heap.size := Nat.lt_of_lt_of_le tl hb2.size
    clear hb2 t0 t1 t2 tl HO1 HBV
    obtain ⟨q, hq⟩ : ∃ q, (if mo < z then z else mo) = q := ⟨_, rfl⟩
    have HQ := Lib.hid (show mostTo l (k + 1) = q from by rw [HMS.out, ← hq]; split <;> omega)
    clear HMS
    go_upto_region 11 with fail
    try rw [hq]
    clear hq
    go_wp2_with fail
    refine (l12Stuck_any HSR2.out).mono ?_
    rw [HLK.out]
    rintro e v3 ⟨rfl, hb3⟩
    have HO3 := Lib.hid (HO2.out.keep hb3)
    have HSR3 := Lib.hid (Ty.below_w HSR2.out hb3)
    have HBV3 := Lib.hid (HBV2.out.trans (hb3.mono HBV2.out.size))
    clear hb3 r0 r1 r2 rl HO2 HBV2 HSR2 HSR HMO HZ hmo1 hz01 HSR3
    go_wp2_with fail
    go_loopw [10, 14] (fun all who wr => ∃ (j b c : Nat) (xs : List Value) (l2 : List Lk), who = .int .i64 j ∧ j ≤ n ∧ rowA l k j = l2 ∧ all = .slice (some ⟨b, 0, none⟩) l2.length c ∧ OwnL wr w.heap.size (.slice (some ⟨b, 0, none⟩) l2.length c) l2 xs ∧ Below w.heap.size w wr) (fun _ who _ => n - (intOf who).toNat)
    case atStart => exact ⟨0, b, c, xs, l, rfl, Nat.zero_le _, rfl, by rw [HML.out], by rw [HML.out]; exact HO3.out, HBV3.out⟩
    case round =>
      obtain ⟨j, b, c, xs, l2, rfl, hj, hrow, rfl, ho, hb⟩ := hrel
      rename World => v4
      obtain ⟨m2, hm2⟩ : ∃ m2, l2.length = m2 := ⟨_, rfl⟩
      have HM2 := Lib.hid hm2
      rw [hm2] at ho ⊢
      have HO4 := Lib.hid ho
      have HB4 := Lib.hid hb
      have HROW := Lib.hid hrow
      have HPRE := Lib.hid (show l <+: l2 from by rw [← hrow]; exact rowA_pre l k j)
      have HG2 := Lib.hid (show Good n l2 from by rw [← hrow]; exact good_row HG.out (by rw [HML.out]; exact hkm) hj)
      have hmm : m ≤ m2 := by rw [← HML.out, ← hm2]; exact HPRE.out.length_le
      have hM2 : m2 ≤ 1529495101875 := by rw [← hm2]; exact good_len HG2.out
      have HD2 := Lib.hid (show l2.getD k lkZ = Dk from by rw [pre_get HPRE.out (by rw [HML.out]; exact hkm), HDK.out])
      clear ho hb hrow hm2
      by_cases hjn : j < n
      case neg =>
        obtain rfl : j = n := by omega
        have HBF := Lib.hid (show bfs D j (k + 1) = l2 from by show rowA (bfs D j k) k j = l2; rw [HLB.out, HROW.out])
        go_wp2_with fail
        go_roundw
        case rel =>
          refine ⟨k + 1, b, c, xs, by go_num, by rw [HBF.out, HM2.out], ?_, rfl, by rw [HBF.out, HM2.out]; omega, fun r hr => ?_, by rw [HBF.out, HM2.out]; exact HO4.out, HB4.out⟩
          · rw [HBF.out, mostTo_pre HPRE.out (by rw [HML.out]; omega), HQ.out]
          · rcases Nat.lt_or_ge r k with h1 | h1
            · exact HRUN.out r h1
            · obtain rfl : r = k := by omega
              rw [HLB.out, HML.out]; exact hkm
        case measure => simp [intOf]; omega
      have hj1 : (j : Int) < n := by omega
      have hj2 : (0 : Int) ≤ j := by omega
      have hk3 : (k : Int) < m2 := by omega
      obtain ⟨s0, s1, s2, t0, t1, t2, hsr⟩ := OwnL.get HO4.out HM2.out.symm (j := k) (by omega)
      rw [HD2.out] at hsr
      obtain ⟨B1, p1, d1, B2, p2, d2, hcs⟩ := tyLock_sh hsr
      simp only [List.cons.injEq, and_true] at hcs
      obtain ⟨rfl, rfl, rfl⟩ := hcs
      have HSR := Lib.hid hsr
      have tl : b < v4.heap.size := (HO4.out.own.lt b rfl).2
      have HJL := Lib.hid (show j < Dk.2.1.length by rw [HGK.out.2]; exact hjn)
      obtain ⟨cb, hcb⟩ : ∃ cb, canB Dk j = cb := ⟨_, rfl⟩
      have HCB := Lib.hid hcb
      have HNX := Lib.hid (show rowA l k (j + 1) = addU l2 (nxL Dk j) from by show addU (rowA l k j) (nxL (l.getD k lkZ) j) = _; rw [HROW.out, HDK.out])
      clear hsr hcb
      go_wp2_with fail
      refine (l12Can_any HSR.out j HJL.out).mono ?_
      rw [HCB.out]
      rintro e v5 ⟨rfl, hb5⟩
      have HO5 := Lib.hid (HO4.out.keep hb5)
      have HSR5 := Lib.hid (Ty.below_w HSR.out hb5)
      have HB5 := Lib.hid (HB4.out.trans (hb5.mono HB4.out.size))
      have r0 := (kc hb5 _ _ tl).trans t0
      have r1 := (kc hb5 _ _ tl).trans t1
      have r2 := (kc hb5 _ _ tl).trans t2
      have rl : b < v5.heap.size := Nat.lt_of_lt_of_le tl hb5.size
      clear hb5 t0 t1 t2 tl HO4 HB4 HSR
      cases cb
      case false =>
        have HEQ := Lib.hid (show rowA l k (j + 1) = l2 from by
          rw [HNX.out]
          unfold nxL
          rw [HCB.out, if_neg (by decide)]
          unfold addU
          rw [if_pos (by rw [← HD2.out]; exact getD_mem (by rw [HM2.out]; omega))])
        go_wp2_with fail
        go_roundw
        case rel => exact ⟨j + 1, b, c, xs, l2, by go_num, by omega, HEQ.out, by rw [HM2.out], by rw [HM2.out]; exact HO5.out, HB5.out⟩
        case measure => simp [intOf]; omega
      have hst : v5.heap.size ≤ v5.heap.size + 2 := by omega
      go_wp2_with fail
      refine (l12Copy_any HSR5.out HSK.out.1).mono ?_
      rintro e v6 ⟨g0, g1, k0, k1, rfl, ho0, ho1, hne, hb6⟩
      have HLM := Lib.hid (show LM (v5.heap.size + 2) v6 Dk g0 g1 k1 from ⟨OwnE.row ho0 rfl, ho1, (OwnE.lt ho0).1, hne⟩)
      have HBS := Lib.hid (show v5.heap.size + 2 ≤ v6.heap.size ∧ v5.heap.size + 2 ≤ g0 ∧ v5.heap.size + 2 ≤ g1 by have h0 := OwnE.lt ho0; have h1 := OwnE.lt ho1; omega)
      have HB6 := Lib.hid hb6
      clear ho0 ho1 hne hb6 r0 r1 r2 rl
      go_wp2_with fail
      refine (l12Step_any HLM.out HSK.out.2.2.1 HGK.out.1.ok.rng HBS.out.1 HJL.out HSK.out.2.1 (HGK.out.1.ok.t j HJL.out) HGK.out.1.ok.w HCB.out).mono ?_
      rintro e v7 ⟨g9, c9, rfl, hq, hft, _⟩
      have hbl : Below v5.heap.size v5 v7 := HB6.out.trans (hft.below (by have := HBS.out; omega) (fun b hb => by
        have := HBS.out
        rcases List.mem_cons.1 hb with h | h
        · omega
        · rw [List.mem_singleton] at h; omega))
      obtain ⟨E, hE⟩ : ∃ E, stepD Dk j = E := ⟨_, rfl⟩
      have HIE := Lib.hid (show LInv E ∧ E.2.1.length = n from by
        rw [← hE]
        exact ⟨step_inv HGK.out.1 HJL.out HCB.out, by rw [step_len HGK.out.1.ok HJL.out]; exact HGK.out.2⟩)
      have HNE := Lib.hid (show rowA l k (j + 1) = addU l2 E from by
        rw [HNX.out, ← hE]
        unfold nxL
        rw [if_pos HCB.out])
      rw [hE] at hq ⊢
      have hsE := small_ok HIE.out.1.ok
      obtain ⟨hm7, hf7, _, _⟩ := LM.km (c0 := k0) hq hst hsE.2.2.2 hsE.1 hbl
      obtain ⟨nE, hnE⟩ : ∃ nE, E.2.1.length = nE := ⟨_, rfl⟩
      obtain ⟨lE, hlE⟩ : ∃ lE, E.2.2.length = lE := ⟨_, rfl⟩
      obtain ⟨WE, hWE⟩ : ∃ WE, E.1 = WE := ⟨_, rfl⟩
      rw [hnE, hlE, hWE] at hm7 ⊢
      have HO7 := Lib.hid ((HO5.out.keep hbl).keep ((Below.refl v7.heap.size v7).alloc (Nat.le_refl _) (.cells #[.int .i64 WE, .slice (some ⟨g0, 0, none⟩) nE k0, .slice (some ⟨g9, 0, none⟩) lE c9] 28)))
      have HM7 := Lib.hid (tyLock.mframe hm7 fun b hb => ((Below.refl v7.heap.size v7).alloc (Nat.le_refl _) (.cells #[.int .i64 WE, .slice (some ⟨g0, 0, none⟩) nE k0, .slice (some ⟨g9, 0, none⟩) lE c9] 28)).block b (hf7 b hb).2)
      have HF7 := Lib.hid (show ∀ x ∈ [g0, g9], x < (v7.alloc (.cells #[.int .i64 WE, .slice (some ⟨g0, 0, none⟩) nE k0, .slice (some ⟨g9, 0, none⟩) lE c9] 28)).heap.size ∧ b < x from fun x hx => by
        have h1 := hf7 x hx
        have h2 := (HO5.out.own.lt b rfl).2
        rw [World.size_alloc]
        omega)
      have HX7 := Lib.hid (Box.new v7 #[.int .i64 WE, .slice (some ⟨g0, 0, none⟩) nE k0, .slice (some ⟨g9, 0, none⟩) lE c9] 28)
      have HB7 := Lib.hid ((HB5.out.trans (hbl.mono HB5.out.size)).alloc (by have h1 := HB5.out.size; have h2 := hbl.size; omega) (.cells #[.int .i64 WE, .slice (some ⟨g0, 0, none⟩) nE k0, .slice (some ⟨g9, 0, none⟩) lE c9] 28))
      clear hq hft hbl hm7 hf7 hE hnE hlE hWE hsE HO5 HB5 HB6 HLM HBS HSR5 hst HNX
      go_upto_region 17 with fail
      generalize v7.alloc (.cells #[.int .i64 WE, .slice (some ⟨g0, 0, none⟩) nE k0, .slice (some ⟨g9, 0, none⟩) lE c9] 28) = v8 at HO7 HM7 HF7 HX7 HB7 ⊢
      generalize v7.heap.size = X at HX7 ⊢
      go_upto_block 4 with fail
      go_cut [16] (fun mt wx => ∃ q : Bool, mt = .bool q ∧ (q = true → E ∈ l2) ∧ (q = false → ∀ r, r < m2 → l2.getD r lkZ ≠ E) ∧ Below v8.heap.size v8 wx)
      case first =>
        go_wp2_with fail
        go_loopw [16, 17] (fun mt i wr => ∃ (r : Nat) (q : Bool), i = .int .i64 r ∧ r ≤ m2 ∧ mt = .bool q ∧ (q = true → E ∈ l2) ∧ (q = false → ∀ r', r' < r → l2.getD r' lkZ ≠ E) ∧ Below v8.heap.size v8 wr) (fun _ i _ => m2 - (intOf i).toNat)
        case atStart => exact ⟨0, false, rfl, Nat.zero_le _, rfl, fun h => (by cases h), fun _ r h => absurd h (Nat.not_lt_zero r), Below.refl _ _⟩
        case round =>
          obtain ⟨r, q, rfl, hr, rfl, hyes, hno, hb⟩ := hrel
          rename World => v9
          have HYES := Lib.hid hyes
          have HNO := Lib.hid hno
          have HB9 := Lib.hid hb
          clear hyes hno hb
          by_cases hrm : r < m2
          case neg =>
            obtain rfl : r = m2 := by omega
            have hrr : ¬ ((r : Int) < r) := by omega
            go_wp2_with fail
            go_meet
            exact ⟨q, rfl, HYES.out, HNO.out, HB9.out⟩
          have hr1 : (r : Int) < m2 := by omega
          have hr2 : (0 : Int) ≤ r := by omega
          cases q
          case true =>
            go_wp2_with fail
            go_meet
            exact ⟨true, rfl, fun _ => HYES.out trivial, fun h => (by cases h), HB9.out⟩
          have HO9 := Lib.hid (HO7.out.keep HB9.out)
          obtain ⟨s0, s1, s2, t0, t1, t2, hsr⟩ := OwnL.get HO9.out HM2.out.symm hrm
          obtain ⟨C1, p1, d1, C2, p2, d2, hcs⟩ := tyLock_sh hsr
          simp only [List.cons.injEq, and_true] at hcs
          obtain ⟨rfl, rfl, rfl⟩ := hcs
          have tl : b < v9.heap.size := (HO9.out.own.lt b rfl).2
          have hdr := Lib.hid (Below.refl v9.heap.size v9).drew
          have HSR9 := Lib.hid (Ty.below_w hsr hdr.out)
          have HSE9 := Lib.hid (Ty.below_w (Ty.below_w (tyLock.mr HM7.out fun x hx => (HF7.out x hx).1) HB9.out) hdr.out)
          have HX9 := Lib.hid (HX7.out.below HB9.out HX7.out.lt)
          have HGR := Lib.hid (HG2.out.inv _ (getD_mem (by rw [HM2.out]; exact hrm)))
          obtain ⟨F, hF⟩ : ∃ F, l2.getD r lkZ = F := ⟨_, rfl⟩
          rw [hF] at t0 HSR9 HGR
          have HFE := Lib.hid hF
          have x0 := HX9.out.cell 0
          have x1 := HX9.out.cell 1
          have x2 := HX9.out.cell 2
          have xl := HX9.out.lt
          simp at x0 x1 x2
          obtain ⟨WF, hWF⟩ : ∃ WF, F.1 = WF := ⟨_, rfl⟩
          rw [hWF] at t0 HSR9
          clear hsr hF hWF
          go_wp2_with fail
          go_region_held3 (fun w' => w'.cell? ⟨b, r * 3, none⟩ = some (.int .i64 WF) ∧ w'.cell? ⟨b, r * 3 + 1, none⟩ = some (.slice C1 p1 d1) ∧ w'.cell? ⟨b, r * 3 + 2, none⟩ = some (.slice C2 p2 d2) ∧ w'.cell? ⟨X, 0, none⟩ = some (.int .i64 WE) ∧ w'.cell? ⟨X, 1, none⟩ = some (.slice (some ⟨g0, 0, none⟩) nE k0) ∧ w'.cell? ⟨X, 2, none⟩ = some (.slice (some ⟨g9, 0, none⟩) lE c9))
            (first | with_reducible exact ⟨(HKP.out _ _ tl).trans t0, (HKP.out _ _ tl).trans t1, (HKP.out _ _ tl).trans t2, (HKP.out _ _ xl).trans x0, (HKP.out _ _ xl).trans x1, (HKP.out _ _ xl).trans x2⟩ | exact ⟨t0, t1, t2, x0, x1, x2⟩)
            (first
              | (go_at_call 68
                 refine (l12Same_any HSR9.out HSE9.out (small_ok HGR.out.1.ok).1 (small_ok HIE.out.1.ok).1).mono ?_
                 rintro e va ⟨rfl, hba⟩
                 have HBA := Lib.hid (hdr.out.trans hba)
                 have HKP := Lib.hid (fun (x : Nat) (i : Nat) (hx : x < v9.heap.size) => (show va.cell? ⟨x, i, none⟩ = v9.cell? ⟨x, i, none⟩ from hba.cell (p := ⟨x, i, none⟩) hx))
                 clear hba))
          have HBB := Lib.hid (HB9.out.trans (HBA.out.mono HB9.out.size))
          clear t0 t1 t2 tl x0 x1 x2 xl HKP
          obtain ⟨q, hq⟩ : ∃ q, decide (F = E) = q := ⟨_, rfl⟩
          have HQD := Lib.hid hq
          rw [hq]
          clear hq
          go_wp2_with fail
          go_roundw
          case rel =>
            refine ⟨r + 1, q, by go_num, by omega, rfl, fun h => ?_, fun h r' hr' => ?_, HBB.out⟩
            · have h1 := HQD.out
              rw [h] at h1
              rw [← of_decide_eq_true h1, ← HFE.out]
              exact getD_mem (by rw [HM2.out]; exact hrm)
            · rcases Nat.lt_or_ge r' r with h1 | h1
              · exact HNO.out (by first | rfl | trivial) r' h1
              · obtain rfl : r' = r := by omega
                have h2 := HQD.out
                rw [h] at h2
                rw [HFE.out]
                exact of_decide_eq_false h2
          case measure => simp [intOf]; omega
      case rest =>
        obtain ⟨q, rfl, hyes, hno, hb⟩ := hcut
        rename World => v9
        have HO9 := Lib.hid (HO7.out.keep hb)
        have HX9 := Lib.hid (HX7.out.below hb HX7.out.lt)
        have HM9 := Lib.hid (Ty.mb HM7.out hb fun x hx => (HF7.out x hx).1)
        have HF9 := Lib.hid (show ∀ x ∈ [g0, g9], x < v9.heap.size ∧ b < x from fun x hx => by have h1 := HF7.out x hx; have h2 := hb.size; omega)
        have HB9 := Lib.hid (HB7.out.trans (hb.mono HB7.out.size))
        have HYES := Lib.hid hyes
        have HNO := Lib.hid hno
        clear hyes hno hb HO7 HX7 HM7 HF7 HB7
        cases q
        case true =>
          have HEQ := Lib.hid (show rowA l k (j + 1) = l2 from by rw [HNE.out]; unfold addU; rw [if_pos (HYES.out rfl)])
          go_wp2_with fail
          go_roundw
          case rel => exact ⟨j + 1, b, c, xs, l2, by go_num, by omega, HEQ.out, by rw [HM2.out], by rw [HM2.out]; exact HO9.out, HB9.out⟩
          case measure => simp [intOf]; omega
        have HEQ := Lib.hid (show rowA l k (j + 1) = l2 ++ [E] from by
          rw [HNE.out]
          unfold addU
          rw [if_neg fun h => ?_]
          obtain ⟨r, hr, e⟩ := List.getElem_of_mem h
          exact HNO.out rfl r (by rw [← HM2.out]; exact hr) (by rw [List.getD_eq_getElem?_getD, List.getElem?_eq_getElem hr, e]; rfl))
        have x0 := HX9.out.cell 0
        have x1 := HX9.out.cell 1
        have x2 := HX9.out.cell 2
        have xl := HX9.out.lt
        simp at x0 x1 x2
        obtain ⟨i0, hi0, hz0, hz1, hz2⟩ := infoLock
        have HIN := Lib.hid hi0
        have HZ0 := Lib.hid hz0
        have HZ1 := Lib.hid hz1
        have HZ2 := Lib.hid hz2
        clear hi0 hz0 hz1 hz2
        have hbl := (Below.refl v9.heap.size v9).alloc (Nat.le_refl _) (.cells #[.int .i64 WE, .slice (some ⟨g0, 0, none⟩) nE k0, .slice (some ⟨g9, 0, none⟩) lE c9] 28)
        have HO10 := Lib.hid (HO9.out.keep hbl)
        have HM10 := Lib.hid (tyLock.mframe HM9.out fun b hb => hbl.block b (HF9.out b hb).1)
        have HN10 := Lib.hid (Box.new v9 #[.int .i64 WE, .slice (some ⟨g0, 0, none⟩) nE k0, .slice (some ⟨g9, 0, none⟩) lE c9] 28)
        have HS10 := Lib.hid (show (v9.alloc (.cells #[.int .i64 WE, .slice (some ⟨g0, 0, none⟩) nE k0, .slice (some ⟨g9, 0, none⟩) lE c9] 28)).heap.size = v9.heap.size + 1 from World.size_alloc ..)
        have HB10 := Lib.hid (HB9.out.alloc HB9.out.size (.cells #[.int .i64 WE, .slice (some ⟨g0, 0, none⟩) nE k0, .slice (some ⟨g9, 0, none⟩) lE c9] 28))
        have hBs : w.heap.size ≤ v9.heap.size := HB9.out.size
        clear hbl
        go_wp2_with (at_builtin
                     refine wpList_append_lies _ rfl (.tmp 100) (.tmp 102) 76 rfl w.heap.size 28 i0 (.agg #[.int .i64 0, .slice none 0 0, .slice none 0 0]) 3 56 Try.underlying76 HIN.out HZ0.out HZ1.out HZ2.out rfl (by decide) (.slice (some ⟨b, 0, none⟩) m2 c) m2 xs ?hs ?hown ⟨v9.heap.size, 0, none⟩ 1 1 [.int .i64 WE, .slice (some ⟨g0, 0, none⟩) nE k0, .slice (some ⟨g9, 0, none⟩) lE c9] ?hx rfl ?hnews ?hone (by decide) ?h63 ?hby ?hba (v9.heap.size + 1) ?hH ?_
                     case hs => rfl
                     case hown => have h := HO10.out.own; rw [HM2.out] at h; exact h
                     case hx => rfl
                     case hnews => exact World.news_of_block HN10.out
                     case hone => intro u hu; simp only [List.mem_cons, List.not_mem_nil, or_false] at hu; rcases hu with rfl | rfl | rfl <;> rfl
                     case h63 => simp only [maxLen]; omega
                     case hby => omega
                     case hba => have := HS10.out; omega
                     case hH => exact HS10.out
                     intro b9 cap va hown hgr hat hlt
                     have HOA := Lib.hid (OwnL.push (v' := .slice (some ⟨b9, 0, none⟩) (m2 + 1) cap) HO10.out rfl HM10.out (fun x hx => by
                       have h1 := HF9.out x hx
                       refine ⟨by have := HS10.out; omega, fun e => ?_⟩
                       simp [Value.ownBlock] at e
                       omega) (by rw [HM2.out]; exact hown) hgr (by
                       rcases hat with h | h
                       · exact Or.inl h.symm
                       · exact Or.inr (by rw [h, HS10.out]; rfl)))
                     have HBA := Lib.hid (HB10.out.trans ((Below.refl w.heap.size _).grown hgr (by have := HS10.out; omega) (fun r e => (HO10.out.own.lt r e).1)))
                     clear hown hgr hat hlt)
        go_roundw
        case rel =>
          refine ⟨j + 1, b9, cap, xs ++ [.int .i64 WE, .slice (some ⟨g0, 0, none⟩) nE k0, .slice (some ⟨g9, 0, none⟩) lE c9], l2 ++ [E], by go_num, by omega, HEQ.out, by rw [List.length_append, HM2.out]; rfl, by rw [List.length_append, HM2.out]; exact HOA.out, HBA.out⟩
        case measure => simp [intOf]; omega
theorem lockAll_any : KAll 38 := by
  intro w n t
  cases h : allB n t
  · exact (lockAll_off h).mono fun e w' h1 => ⟨fun _ => h1.1, fun h2 => (by cases h2), h1.2⟩
  · have h1 := h
    unfold allB at h1
    rw [Bool.and_eq_true] at h1
    have h2 := of_inB h1.1
    obtain ⟨m, rfl⟩ : ∃ m : Nat, n = m := ⟨n.toNat, by omega⟩
    rw [Int.toNat_natCast]
    exact (lockAll_on h).mono fun e w' ⟨i, h3, h4, h5⟩ => ⟨fun h6 => (by cases h6), fun _ => ⟨i, h3, h4⟩, h5⟩
end Go.Proofs.Ytpmigekejipohaa
