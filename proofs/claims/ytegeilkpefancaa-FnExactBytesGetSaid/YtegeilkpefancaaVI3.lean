/-
  The program's BytesGet.
-/
import Derived.Test.YtegeilkpefancaaVI2
namespace Go.Proofs.Ytegeilkpefancaa
open Go.RowKit

set_option maxHeartbeats 4000000 in
theorem bytesGetI : BGet 23 := by
  intro w hi x0 D who addr h hwf htv
  have HR := Lib.hid h
  have HWF := Lib.hid hwf
  have HTV := Lib.hid htv
  obtain ⟨A, c, rfl, hL⟩ := lenV h
  clear h hwf htv
  unfold maxLen at hL
  have HN := Lib.hid (show getN D who addr = if (liveV D who && inB addr 0 63) = true then (if hasV (D.getD who.toNat zS) addr = true then byV (pgV (D.getD who.toNat zS) addr) (addr % 4).toNat else -1) else -1 from rfl)
  have HC := Lib.hid (show getC D who addr = if (liveV D who && inB addr 0 63) = true then (if hasV (D.getD who.toNat zS) addr = true then 0 else 2) else 1 from rfl)
  obtain ⟨rn, hrn⟩ : ∃ r, r = getN D who addr := ⟨_, rfl⟩
  obtain ⟨rc, hrc⟩ : ∃ r, r = getC D who addr := ⟨_, rfl⟩
  rw [← hrn, ← hrc]
  rw [← hrn] at HN
  rw [← hrc] at HC
  clear hrn hrc
  have HW := Lib.hid (show Below w.heap.size w (w.alloc (.cells #[.slice A D.length c] 52)) from (Below.refl _ _).alloc (Nat.le_refl _) _)
  have X0 := Lib.hid (Box.new w #[.slice A D.length c] 52)
  by_cases hin : inB who 0 ((D.length : Int) - 1) = true
  rotate_left
  · have hin' : inB who 0 ((D.length : Int) - 1) = false := by simpa using hin
    have hv : liveV D who = false := by unfold liveV; rw [hin']; rfl
    rw [hv] at HN HC
    go_enter Try.func23, Try.ntmps23
    go_wp2_with fail
    refine (vlive_out (A := A) (c := c) who hin').mono ?_
    rintro e w1 ⟨rfl, hb1⟩
    have HW1 := Lib.hid (HW.out.trans (hb1.mono HW.out.size))
    clear hb1 hin hin' hv
    have HW2 := Lib.hid (HW1.out.alloc (o := .cells #[.bool false, .slice none 0 0, .slice none 0 0, .slice none 0 0] 112) HW1.out.size)
    go_wp2_with fail
    refine bodyPost_ret (v := .tuple #[.int .i64 (-1), .int .i64 1]) (by simp [results, Try.results23, go_sem]) rfl ⟨by rw [HN.out, HC.out]; rfl, HW2.out⟩
  have hb2 := of_inB hin
  obtain ⟨k, rfl⟩ : ∃ k : Nat, who = k := ⟨who.toNat, by omega⟩
  have hk : k < D.length := by omega
  obtain ⟨b, o, c', A1, n1, c1, A2, n2, c2, A3, n3, c3, hS⟩ := spAt HR.out hk
  have hx := hS.x
  simp only [Value.slice.injEq] at hx
  obtain ⟨rfl, -, rfl⟩ := hx
  have HS := Lib.hid hS
  have HT := Lib.hid (topV_at HTV.out hk)
  rw [show (k : Int).toNat = k by omega] at HN HC
  clear hin hb2 hS
  have HSW : Hid (SpAt (w.alloc (.cells #[.slice (some ⟨b, o, none⟩) D.length c] 52)) hi (.slice (some ⟨b, o, none⟩) D.length c) D k b o c A1 n1 c1 A2 n2 c2 A3 n3 c3) := Lib.hid
    ⟨rfl, Nat.lt_of_lt_of_le HS.out.lt HW.out.size, (kc HW.out _ _ HS.out.lt).trans HS.out.q0, (kc HW.out _ _ HS.out.lt).trans HS.out.q1, (kc HW.out _ _ HS.out.lt).trans HS.out.q2, (kc HW.out _ _ HS.out.lt).trans HS.out.q3,
      HS.out.p1, HS.out.m1, HS.out.r1.wb HW.out, HS.out.p2, HS.out.m2, HS.out.r2.wb HW.out, HS.out.p3, HS.out.m3, HS.out.r3.wb HW.out⟩
  go_enter Try.func23, Try.ntmps23
  go_wp2_with fail
  refine (vlive_any HSW.out hk HTV.out).mono ?_
  rintro e w1 ⟨rfl, hb1⟩
  have HW1 := Lib.hid (HW.out.trans (hb1.mono HW.out.size))
  clear hb1
  by_cases hv : liveV D k = true
  rotate_left
  · have hv' : liveV D k = false := by simpa using hv
    rw [hv'] at HN HC ⊢
    rw [if_neg (by decide)]
    clear hv hv'
    have HW2 := Lib.hid (HW1.out.alloc (o := .cells #[.bool false, .slice none 0 0, .slice none 0 0, .slice none 0 0] 112) HW1.out.size)
    go_wp2_with fail
    refine bodyPost_ret (v := .tuple #[.int .i64 (-1), .int .i64 1]) (by simp [results, Try.results23, go_sem]) rfl ⟨by rw [HN.out, HC.out]; rfl, HW2.out⟩
  rw [hv] at HN HC ⊢
  rw [if_pos rfl]
  obtain ⟨k', hkk, _, l1, l2, l3, l4⟩ := live_parts hv
  obtain rfl : k = k' := by omega
  clear hv hkk
  have HW2 := Lib.hid (HW1.out.alloc (o := .cells #[.bool true, .slice A1 n1 c1, .slice A2 n2 c2, .slice A3 n3 c3] 112) HW1.out.size)
  have Y2 := Lib.hid (Box.new w1 #[.bool true, .slice A1 n1 c1, .slice A2 n2 c2, .slice A3 n3 c3] 112)
  go_wp2_with fail
  refine (addressOk_any addr).mono ?_
  rintro e w2 ⟨rfl, rfl⟩
  by_cases ha : inB addr 0 63 = true
  rotate_left
  · have ha' : inB addr 0 63 = false := by simpa using ha
    rw [ha'] at HN HC ⊢
    clear ha ha'
    go_wp2_with fail
    refine bodyPost_ret (v := .tuple #[.int .i64 (-1), .int .i64 1]) (by simp [results, Try.results23, go_sem]) rfl ⟨by rw [HN.out, HC.out]; rfl, HW2.out⟩
  rw [ha] at HN HC ⊢
  have hab := of_inB ha
  obtain ⟨a, rfl⟩ : ∃ a : Nat, addr = a := ⟨addr.toNat, by omega⟩
  have h16 : n3 = 16 := HS.out.p3.symm.trans l3
  subst h16
  obtain ⟨b3, o3, rfl, hb3, hc3⟩ := row1 HS.out.r3 (show a / 4 < 16 by omega)
  have HT2 := Lib.hid (wf_text (p := a / 4) HWF.out hk)
  generalize htt : (D.getD k zS).2.2.2.getD (a / 4) .empty = t at hc3 HT2
  have HP : Hid (pgV (D.getD k zS) a = t) := Lib.hid (by rw [← htt]; unfold pgV; rw [show ((a : Int) / 4).toNat = a / 4 by omega])
  have HH : Hid (hasV (D.getD k zS) a = (decide (0 ≤ l2AtV (arL (D.getD k zS).2.1) ((a / 4 : Nat) : Int)) && decide (t.size = 4))) := Lib.hid (by
    unfold hasV
    rw [HP.out, show (a : Int) / 4 = ((a / 4 : Nat) : Int) by omega])
  rw [HP.out, HH.out, show ((a : Int) % 4).toNat = a % 4 by omega] at HN
  rw [HH.out] at HC
  have HC3 := Lib.hid hc3
  have HL4 := Lib.hid l4
  have hts := HT2.out
  unfold maxLen at hts
  clear hc3 l1 l2 l3 l4 ha htt
  generalize hW : w1.alloc (.cells #[.bool true, .slice A1 n1 c1, .slice A2 n2 c2, .slice (some ⟨b3, o3, none⟩) 16 c3] 112) = W at *
  have hY := congrArg (fun x => x.heap.size) hW
  simp only [World.size_alloc] at hY
  clear hW
  have y0 := Y2.out.cell 0
  have y1 := Y2.out.cell 1
  have y2 := Y2.out.cell 2
  have y3 := Y2.out.cell 3
  have yl := Y2.out.lt
  simp at y0 y1 y2 y3
  go_wp2_with fail
  refine (atV_any (c1 := c1) (c2 := c2) (c3 := c3) (A2 := A2) (n2 := n2) (lv := true) a (by omega) (HS.out.r1.wb HW2.out) HS.out.p1 HL4.out (Nat.lt_of_lt_of_le hb3 HW2.out.size) ((kc HW2.out _ _ hb3).trans HC3.out)).mono ?_
  rintro e w3 ⟨q, rfl, hqq, hb4⟩
  clear hqq
  have HW3 := Lib.hid (HW2.out.trans (hb4.mono HW2.out.size))
  have Y3 := Lib.hid (Y2.out.below hb4 Y2.out.lt)
  have HW4 := Lib.hid (HW3.out.alloc (o := .cells #[.int .i64 q.f0, .int .i64 q.f1, .bool q.f2, .bool q.f3] 106) HW3.out.size)
  have Y4 := Lib.hid (Y3.out.alloc (.cells #[.int .i64 q.f0, .int .i64 q.f1, .bool q.f2, .bool q.f3] 106))
  generalize hzz : (decide (0 ≤ l2AtV (arL (D.getD k zS).2.1) ((a / 4 : Nat) : Int)) && decide (t.size = 4)) = zz at *
  have HZZ := Lib.hid hzz
  clear hb4 y0 y1 y2 y3 yl hY hzz
  cases zz
  · go_wp2_with fail
    refine bodyPost_ret (v := .tuple #[.int .i64 (-1), .int .i64 2]) (by simp [results, Try.results23, go_sem]) rfl ⟨by rw [HN.out, HC.out]; simp, HW4.out⟩
  have h4 : t.size = 4 := of_decide_eq_true (Bool.and_eq_true_iff.1 HZZ.out).2
  have hix : a % 4 < t.size := by omega
  have hby : ∀ h : a % 4 < t.size, ((t[a % 4]'h).toNat : Int) = byV t (a % 4) := byV_get t (a % 4)
  generalize byV t (a % 4) = y at *
  have hy : 0 ≤ y ∧ y ≤ 255 := by
    have h := hby hix
    have h2 := (t[a % 4]'hix).toNat_lt
    omega
  have hwy : IntKind.i64.wrap y = y := IntWalk.i64_in _ (by omega)
  have hix2 : ((a % 4 : Nat) : Int) < t.size := by omega
  have hix3 : (0 : Int) ≤ ((a % 4 : Nat) : Int) := by omega
  have hqa : (a : Int).tdiv 4 = ((a / 4 : Nat) : Int) := (Int.ofNat_tdiv a 4).symm
  have hra : (a : Int).tmod 4 = ((a % 4 : Nat) : Int) := (Int.ofNat_tmod a 4).symm
  have hp1 : ((a / 4 : Nat) : Int) < 16 := by omega
  have hp2 : (0 : Int) ≤ ((a / 4 : Nat) : Int) := by omega
  have c3' := (kc HW3.out _ _ hb3).trans HC3.out
  have v3 := Y3.out.cell 3
  have vl := Y3.out.lt
  have hs3 := HW3.out.size
  have hne1 : ¬ w1.heap.size = w3.heap.size := by omega
  have hne2 : b3 < w3.heap.size := by omega
  simp at v3
  go_wp2_with fail
  refine bodyPost_ret (v := .tuple #[.int .i64 y, .int .i64 0]) (by simp [results, Try.results23, go_sem]) rfl ⟨by rw [HN.out, HC.out]; simp, HW4.out⟩
end Go.Proofs.Ytegeilkpefancaa
