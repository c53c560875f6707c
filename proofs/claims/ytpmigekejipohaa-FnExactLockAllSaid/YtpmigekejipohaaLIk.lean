/-
  The program's LockAll, over what reached answers.
-/
import Derived.Test.YtpmigekejipohaaLI
import Derived.Test.YtpmigekejipohaaLS9
namespace Go.Proofs.Ytpmigekejipohaa
open Go.RowKit

/-- what reached answers -/
def KRch (f : Nat) : Prop := ∀ ⦃w : World⦄ ⦃hi : Nat⦄ ⦃x0 x1 x2 : Value⦄ ⦃D : Lk⦄ ⦃n : Nat⦄, tyLock.R w hi [x0, x1, x2] D → LInv D → D.2.1.length = n →
  Calls Try.prog f #[.agg #[x0, x1, x2]] w fun e w' => ∃ (i b c : Nat) (xs : List Value), EndsAt D n i ∧ e = .returned (.slice (some ⟨b, 0, none⟩) i c) ∧ OwnL w' w.heap.size (.slice (some ⟨b, 0, none⟩) i c) (bfs D n i) xs ∧ Below w.heap.size w w'
set_option maxHeartbeats 8000000 in
set_option maxRecDepth 100000 in
theorem lockAllI_of (hR : KRch 66) : KAll 37 := by
  intro w n t
  have HRC := Lib.hid hR
  clear hR
  obtain ⟨nb, hnb⟩ : ∃ b, newB n t = b := ⟨_, rfl⟩
  have HNB := Lib.hid hnb
  clear hnb
  go_enter Try.func37, Try.ntmps37
  go_wp2_with fail
  refine (lockNewI n t).mono ?_
  rw [HNB.out]
  rintro e w1 ⟨y0, y1, y2, fp, rfl, hm, hf, hsm, hb⟩
  obtain ⟨A1, n1, c1, A2, n2, c2, hcs⟩ := tyLock_shM hm
  simp only [List.cons.injEq, and_true] at hcs
  obtain ⟨rfl, rfl, rfl⟩ := hcs
  obtain ⟨W0, hW0⟩ : ∃ W0, (newL n t).1 = W0 := ⟨_, rfl⟩
  rw [hW0] at hm ⊢
  have HT := Lib.hid (Ty.below_w (tyLock.mr hm fun b hb => (hf b hb).2) ((Below.refl w1.heap.size w1).alloc (Nat.le_refl _) (.cells #[.int .i64 W0, .slice A1 n1 c1, .slice A2 n2 c2] 28)))
  have HB2 := Lib.hid (hb.alloc hb.size (.cells #[.int .i64 W0, .slice A1 n1 c1, .slice A2 n2 c2] 28))
  have HX := Lib.hid (Box.new w1 #[.int .i64 W0, .slice A1 n1 c1, .slice A2 n2 c2] 28)
  clear hm hf hsm hb hW0
  go_upto_region 2 with fail
  generalize w1.alloc (.cells #[.int .i64 W0, .slice A1 n1 c1, .slice A2 n2 c2] 28) = w2 at HT HB2 HX ⊢
  go_cut [42] (fun v wx => v = .bool (!allB n t) ∧ w2 = wx)
  case first =>
    cases nb
    case false =>
      have HAB := Lib.hid (show allB n t = false from by
        cases h : allB n t
        · rfl
        · have h1 := HNB.out
          unfold allB at h
          rw [Bool.and_eq_true, Bool.and_eq_true] at h
          have h2 := of_inB h.1
          have h3 := of_inB h.2.1
          unfold newB at h1
          rw [inB_of (by omega), inB_of (by omega)] at h1
          cases h1)
      go_wp2_with fail
      go_meet
      exact ⟨by rw [HAB.out]; rfl, rfl⟩
    have h1 := HNB.out
    unfold newB at h1
    rw [Bool.and_eq_true] at h1
    have h2 := of_inB h1.1
    have h3 := of_inB h1.2
    clear h1
    rcases (by omega : n = 1 ∨ n = 2 ∨ n = 3 ∨ n = 4) with rfl | rfl | rfl | rfl <;> rcases (by omega : t = 0 ∨ t = 1 ∨ t = 2 ∨ t = 3) with rfl | rfl | rfl | rfl
    all_goals
      go_wp2_with fail
      go_meet
      exact ⟨rfl, rfl⟩
  case rest =>
  obtain ⟨rfl, rfl⟩ := hcut
  cases hab : allB n t
  case false =>
    have HAB := Lib.hid hab
    clear hab
    go_wp2_with fail
    exact bodyPost_ret (v := .tuple #[.int .i64 0, .int .i64 0, .bool false, .bool false]) (by simp [results, Try.results37, go_sem]) rfl ⟨fun _ => rfl, fun h => (by rw [HAB.out] at h; cases h), HB2.out⟩
  have HAB := Lib.hid hab
  have hn := hab
  unfold allB at hn
  rw [Bool.and_eq_true, Bool.and_eq_true] at hn
  have hr1 := of_inB hn.1
  have hr2 := of_inB hn.2.1
  clear hab hn
  obtain ⟨N, rfl⟩ : ∃ N : Nat, n = N := ⟨n.toNat, by omega⟩
  have HNB2 := Lib.hid (show newB N t = true from by unfold newB; rw [inB_of (by omega), inB_of (by omega)]; rfl)
  have HNL := Lib.hid (show newL N t = newLk N t from by unfold newL; rw [if_pos HNB2.out, Int.toNat_natCast])
  have HINV := Lib.hid (show LInv (newLk N t) from by have := new_inv HNB2.out; rwa [Int.toNat_natCast] at this)
  have HLEN := Lib.hid (show (newLk N t).2.1.length = N from by show (List.replicate N _).length = N; rw [List.length_replicate])
  rw [HNL.out] at HT
  obtain ⟨D, hD⟩ : ∃ D, newLk N t = D := ⟨_, rfl⟩
  rw [hD] at HT HINV HLEN
  have HDD := Lib.hid hD
  clear hD
  have x0 := HX.out.cell 0
  have x1 := HX.out.cell 1
  have x2 := HX.out.cell 2
  have xl := HX.out.lt
  simp at x0 x1 x2
  go_wp2_with fail
  refine (HRC.out HT.out HINV.out HLEN.out).mono ?_
  rintro e w3 ⟨i, b, c, xs, he, rfl, ho, hb⟩
  have HE := Lib.hid he
  have HG := Lib.hid (bfs_good HINV.out HLEN.out he.run)
  obtain ⟨l, hl⟩ : ∃ l, bfs D N i = l := ⟨_, rfl⟩
  have HLB := Lib.hid hl
  rw [hl] at ho HG
  have HLI := Lib.hid (show l.length = i from by rw [← hl]; exact he.len)
  have hM : i ≤ 1529495101875 := by rw [← HLI.out]; exact good_len HG.out
  have HO := Lib.hid ho
  have HB3 := Lib.hid (HB2.out.trans (hb.mono HB2.out.size))
  clear he hl ho hb x0 x1 x2 xl
  go_wp2_with fail
  go_loopw [11, 12, 47] (fun most stuck ix wr => ∃ k : Nat, ix = .int .i64 k ∧ k ≤ i ∧ most = .int .i64 (mostTo l k) ∧ stuck = .bool false ∧ OwnL wr w2.heap.size (.slice (some ⟨b, 0, none⟩) i c) l xs ∧ Below w.heap.size w wr) (fun _ _ ix _ => i - (intOf ix).toNat)
  case atStart => exact ⟨0, rfl, Nat.zero_le _, rfl, rfl, HO.out, HB3.out⟩
  case round =>
    obtain ⟨k, rfl, hk, rfl, rfl, ho, hb⟩ := hrel
    rename World => v1
    have HO1 := Lib.hid ho
    have HB4 := Lib.hid hb
    clear ho hb
    obtain ⟨mo, hmo⟩ : ∃ mo, mostTo l k = mo := ⟨_, rfl⟩
    have HMO := Lib.hid hmo
    rw [hmo]
    clear hmo
    by_cases hki : k < i
    case neg =>
      obtain rfl : k = i := by omega
      have hkk : ¬ ((k : Int) < k) := by omega
      go_wp2_with fail
      exact bodyPost_ret (v := .tuple #[.int .i64 k, .int .i64 mo, .bool false, .bool true]) (by simp [results, Try.results37, go_sem]) rfl ⟨fun h => (by rw [HAB.out] at h; cases h), fun _ => ⟨k, by (try rw [Int.toNat_natCast]); rw [HDD.out]; exact ⟨HE.out, by rw [HLB.out, HMO.out]⟩⟩, HB4.out⟩
    have hk1 : (k : Int) < i := by omega
    have hk2 : (0 : Int) ≤ k := by omega
    obtain ⟨s0, s1, s2, t0, t1, t2, hsr⟩ := OwnL.get HO1.out HLI.out.symm hki
    obtain ⟨Dk, hDk⟩ : ∃ X, l.getD k lkZ = X := ⟨_, rfl⟩
    have HGK := Lib.hid (show LInv Dk from by rw [← hDk]; exact (HG.out.inv _ (getD_mem (by rw [HLI.out]; exact hki))).1)
    rw [hDk] at hsr
    obtain ⟨B1, p1, d1, B2, p2, d2, hcs⟩ := tyLock_sh hsr
    simp only [List.cons.injEq, and_true] at hcs
    obtain ⟨rfl, rfl, rfl⟩ := hcs
    have tl : b < v1.heap.size := (HO1.out.own.lt b rfl).2
    obtain ⟨z, hz⟩ : ∃ z, inD Dk = z := ⟨_, rfl⟩
    have HZ := Lib.hid hz
    have HMS := Lib.hid (show mostTo l (k + 1) = (if mo < z then z else mo) from by
      show max (mostTo l k) _ = _
      rw [HMO.out, hDk, ← hz]
      unfold inD
      rw [if_pos (inv_ok HGK.out)]
      split <;> omega)
    have HSTK := Lib.hid (inv_stuck HGK.out)
    obtain ⟨WF, hWF⟩ : ∃ WF, Dk.1 = WF := ⟨_, rfl⟩
    rw [hWF] at t0 hsr
    have HSR := Lib.hid (Ty.below_w hsr ((Below.refl v1.heap.size v1).alloc (Nat.le_refl _) (.cells #[.int .i64 WF, .slice B1 p1 d1, .slice B2 p2 d2] 28)))
    have HBX := Lib.hid (Box.new v1 #[.int .i64 WF, .slice B1 p1 d1, .slice B2 p2 d2] 28)
    have HO2 := Lib.hid (HO1.out.keep ((Below.refl v1.heap.size v1).alloc (Nat.le_refl _) (.cells #[.int .i64 WF, .slice B1 p1 d1, .slice B2 p2 d2] 28)))
    have HB5 := Lib.hid (HB4.out.alloc HB4.out.size (.cells #[.int .i64 WF, .slice B1 p1 d1, .slice B2 p2 d2] 28))
    clear hz hDk hWF hsr
    go_upto_region 8 with fail
    generalize v1.alloc (.cells #[.int .i64 WF, .slice B1 p1 d1, .slice B2 p2 d2] 28) = v2 at HSR HBX HO2 HB5 ⊢
    generalize v1.heap.size = X at HBX ⊢
    clear t0 t1 t2 tl
    have x0 := HBX.out.cell 0
    have x1 := HBX.out.cell 1
    have x2 := HBX.out.cell 2
    have xl := HBX.out.lt
    simp at x0 x1 x2
    go_wp2_with fail
    refine (lockInI HSR.out).mono ?_
    rw [HZ.out]
    rintro e v3 ⟨rfl, hb3⟩
    have HSR3 := Lib.hid (Ty.below_w HSR.out hb3)
    have HBX3 := Lib.hid (HBX.out.below hb3 HBX.out.lt)
    have HO3 := Lib.hid (HO2.out.keep hb3)
    have HB6 := Lib.hid (HB5.out.trans (hb3.mono HB5.out.size))
    clear hb3 x0 x1 x2 xl
    have x0 := HBX3.out.cell 0
    have x1 := HBX3.out.cell 1
    have x2 := HBX3.out.cell 2
    have xl := HBX3.out.lt
    simp at x0 x1 x2
    obtain ⟨q, hq⟩ : ∃ q, (if mo < z then z else mo) = q := ⟨_, rfl⟩
    have HQ := Lib.hid (show mostTo l (k + 1) = q from by rw [HMS.out, hq])
    go_upto_region 9 with fail
    try rw [hq]
    clear hq
    go_wp2_with fail
    refine (lockStkI HSR3.out).mono ?_
    rw [HSTK.out]
    rintro e v4 ⟨rfl, hb4⟩
    have HO4 := Lib.hid (HO3.out.keep hb4)
    have HB7 := Lib.hid (HB6.out.trans (hb4.mono HB6.out.size))
    clear hb4 x0 x1 x2 xl
    go_wp2_with fail
    go_roundw
    case rel => exact ⟨k + 1, by go_num, by omega, by rw [HQ.out], rfl, HO4.out, HB7.out⟩
    case measure => simp [intOf]; omega
end Go.Proofs.Ytpmigekejipohaa
