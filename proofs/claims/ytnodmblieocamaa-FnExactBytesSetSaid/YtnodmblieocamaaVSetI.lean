/-
  The program's BytesSet.
-/
import Derived.Test.YtnodmblieocamaaVPutI
namespace Go.Proofs.Ytnodmblieocamaa
open Go.RowKit

set_option maxHeartbeats 8000000 in
set_option maxRecDepth 100000 in
theorem bytesSetI : BSet 7 := by
  intro w hi x0 D who addr v h hwf htv hsm
  have HR := Lib.hid h
  have HTV := Lib.hid htv
  have HSM := Lib.hid hsm
  have HDM := Lib.hid (show D.length ≤ 1048576 by have h1 : totSBytesOf D ≤ 1048576 := hsm; unfold totSBytesOf at h1; omega)
  obtain ⟨A, c, rfl, hL⟩ := lenV h
  clear h hwf htv hsm
  unfold maxLen at hL
  have HN := Lib.hid (show bsD D who addr v = if (liveV D who && (inB addr 0 63 && inB v 0 255)) = true then (if hasV (D.getD who.toNat zS) addr = true then (if wrV (D.getD who.toNat zS) addr = true then bsP D who.toNat (addr / 4).toNat (bsT (D.getD who.toNat zS) addr v) else D) else D) else [] from rfl)
  have HC := Lib.hid (show bsC D who addr v = if (liveV D who && (inB addr 0 63 && inB v 0 255)) = true then (if hasV (D.getD who.toNat zS) addr = true then (if wrV (D.getD who.toNat zS) addr = true then 0 else 3) else 2) else 1 from rfl)
  generalize bsD D who addr v = RD at HN ⊢
  generalize bsC D who addr v = RC at HC ⊢
  have HW := Lib.hid (show Below w.heap.size w ((w.alloc (.cells #[.slice A D.length c] 28)).alloc (.cells #[.slice none 0 0] 28)) from ((Below.refl _ _).alloc (Nat.le_refl _) _).alloc (by simp only [World.size_alloc]; omega) _)
  have B0 := Lib.hid ((Box.new w #[.slice A D.length c] 28).alloc (.cells #[.slice none 0 0] 28))
  have E0 := Lib.hid (show Box ((w.alloc (.cells #[.slice A D.length c] 28)).alloc (.cells #[.slice none 0 0] 28)) (w.heap.size + 1) #[.slice none 0 0] 28 from by
    have h := Box.new (w.alloc (.cells #[.slice A D.length c] 28)) #[.slice none 0 0] 28
    rw [World.size_alloc] at h
    exact h)
  by_cases hin : inB who 0 ((D.length : Int) - 1) = true
  rotate_left
  · have hin' : inB who 0 ((D.length : Int) - 1) = false := by simpa using hin
    have hv : liveV D who = false := by unfold liveV; rw [hin']; rfl
    rw [hv] at HN HC
    go_enter Try.func7, Try.ntmps7
    go_wp2_with fail
    refine (vlive_out (A := A) (c := c) who hin').mono ?_
    rintro e w1 ⟨rfl, hb1⟩
    have HW1 := Lib.hid (HW.out.trans (hb1.mono HW.out.size))
    have E1 := Lib.hid (E0.out.below hb1 E0.out.lt)
    have e0 := E1.out.cell 0
    have el := E1.out.lt
    have ef := E1.out.frz 0
    simp at e0
    clear hb1 hin hin' hv
    have HW2 := Lib.hid (HW1.out.alloc (o := .cells #[.bool false, .slice none 0 0, .slice none 0 0, .slice none 0 0] 44) HW1.out.size)
    go_wp2_with fail
    have z0 : ∀ ob, ((w1.setCell ⟨w.heap.size + 1, 0, none⟩ (.slice none 0 0)).alloc ob).cell? ⟨w.heap.size + 1, 0, none⟩ = some (.slice none 0 0) := fun ob => ((E1.out.set 0 (.slice none 0 0)).alloc ob).cell 0
    refine bodyPost_ret (v := .tuple #[.agg #[.slice none 0 0], .int .i64 1]) (by simp [results, Try.results7, go_sem, z0]) rfl ?_
    obtain rfl : RD = [] := HN.out.trans (by simp)
    obtain rfl : RC = 1 := HC.out.trans (by simp)
    exact ⟨none, 0, [], rfl, bs_none, fun x hx => absurd hx List.not_mem_nil, (HW1.out.setCell (by simp) _).alloc (by simp only [World.size_setCell]; exact HW1.out.size) _⟩
  have hb2 := of_inB hin
  obtain ⟨k, rfl⟩ : ∃ k : Nat, who = k := ⟨who.toNat, by omega⟩
  have hk : k < D.length := by omega
  obtain ⟨b, o, c', A1, n1, c1, A2, n2, c2, A3, n3, c3, hS⟩ := spAt HR.out hk
  have hx := hS.x
  simp only [Value.slice.injEq] at hx
  obtain ⟨rfl, -, rfl⟩ := hx
  have HS := Lib.hid hS
  have HT := Lib.hid (topV_at HTV.out hk)
  simp only [show (k : Int).toNat = k by omega] at HN HC
  clear hin hb2 hS
  have HSW : Hid (SpAt ((w.alloc (.cells #[.slice (some ⟨b, o, none⟩) D.length c] 28)).alloc (.cells #[.slice none 0 0] 28)) hi (.slice (some ⟨b, o, none⟩) D.length c) D k b o c A1 n1 c1 A2 n2 c2 A3 n3 c3) := Lib.hid
    ⟨rfl, Nat.lt_of_lt_of_le HS.out.lt HW.out.size, (kc HW.out _ _ HS.out.lt).trans HS.out.q0, (kc HW.out _ _ HS.out.lt).trans HS.out.q1, (kc HW.out _ _ HS.out.lt).trans HS.out.q2, (kc HW.out _ _ HS.out.lt).trans HS.out.q3,
      HS.out.p1, HS.out.m1, HS.out.r1.wb HW.out, HS.out.p2, HS.out.m2, HS.out.r2.wb HW.out, HS.out.p3, HS.out.m3, HS.out.r3.wb HW.out⟩
  go_enter Try.func7, Try.ntmps7
  go_wp2_with fail
  refine (vlive_any HSW.out hk HTV.out).mono ?_
  rintro e w1 ⟨rfl, hb1⟩
  have HW1 := Lib.hid (HW.out.trans (hb1.mono HW.out.size))
  have B1 := Lib.hid (B0.out.below hb1 B0.out.lt)
  have b0 := B1.out.cell 0
  have bl := B1.out.lt
  simp at b0
  have E1 := Lib.hid (E0.out.below hb1 E0.out.lt)
  have e0 := E1.out.cell 0
  have el := E1.out.lt
  have ef := E1.out.frz 0
  simp at e0
  clear hb1
  by_cases hv : liveV D k = true
  rotate_left
  · have hv' : liveV D k = false := by simpa using hv
    rw [hv'] at HN HC ⊢
    rw [if_neg (by decide)]
    clear hv hv'
    have HW2 := Lib.hid (HW1.out.alloc (o := .cells #[.bool false, .slice none 0 0, .slice none 0 0, .slice none 0 0] 44) HW1.out.size)
    go_wp2_with fail
    have z0 : ∀ ob, ((w1.setCell ⟨w.heap.size + 1, 0, none⟩ (.slice none 0 0)).alloc ob).cell? ⟨w.heap.size + 1, 0, none⟩ = some (.slice none 0 0) := fun ob => ((E1.out.set 0 (.slice none 0 0)).alloc ob).cell 0
    refine bodyPost_ret (v := .tuple #[.agg #[.slice none 0 0], .int .i64 1]) (by simp [results, Try.results7, go_sem, z0]) rfl ?_
    obtain rfl : RD = [] := HN.out.trans (by simp)
    obtain rfl : RC = 1 := HC.out.trans (by simp)
    exact ⟨none, 0, [], rfl, bs_none, fun x hx => absurd hx List.not_mem_nil, (HW1.out.setCell (by simp) _).alloc (by simp only [World.size_setCell]; exact HW1.out.size) _⟩
  rw [hv] at HN HC ⊢
  rw [if_pos rfl]
  obtain ⟨k', hkk, _, l1, l2, l3, l4⟩ := live_parts hv
  obtain rfl : k = k' := by omega
  clear hv hkk
  have HW2 := Lib.hid (HW1.out.alloc (o := .cells #[.bool true, .slice A1 n1 c1, .slice A2 n2 c2, .slice A3 n3 c3] 44) HW1.out.size)
  have Y2 := Lib.hid (Box.new w1 #[.bool true, .slice A1 n1 c1, .slice A2 n2 c2, .slice A3 n3 c3] 44)
  go_wp2_with fail
  refine (addressOk_any addr).mono ?_
  rintro e w2 ⟨rfl, rfl⟩
  by_cases ha : inB addr 0 63 = true
  rotate_left
  · have ha' : inB addr 0 63 = false := by simpa using ha
    rw [ha'] at HN HC ⊢
    clear ha ha'
    go_wp2_with fail
    have z0 : ∀ ob, ((w1.setCell ⟨w.heap.size + 1, 0, none⟩ (.slice none 0 0)).alloc ob).cell? ⟨w.heap.size + 1, 0, none⟩ = some (.slice none 0 0) := fun ob => ((E1.out.set 0 (.slice none 0 0)).alloc ob).cell 0
    refine bodyPost_ret (v := .tuple #[.agg #[.slice none 0 0], .int .i64 1]) (by simp [results, Try.results7, go_sem, z0]) rfl ?_
    obtain rfl : RD = [] := HN.out.trans (by simp)
    obtain rfl : RC = 1 := HC.out.trans (by simp)
    exact ⟨none, 0, [], rfl, bs_none, fun x hx => absurd hx List.not_mem_nil, (HW1.out.setCell (by simp) _).alloc (by simp only [World.size_setCell]; exact HW1.out.size) _⟩
  rw [ha] at HN HC ⊢
  have hab := of_inB ha
  by_cases hq : inB v 0 255 = true
  rotate_left
  · have hq' : inB v 0 255 = false := by simpa using hq
    rw [hq'] at HN HC
    by_cases h0 : v < 0
    · clear hq hq' ha
      go_wp2_with fail
      have z0 : ∀ ob, ((w1.setCell ⟨w.heap.size + 1, 0, none⟩ (.slice none 0 0)).alloc ob).cell? ⟨w.heap.size + 1, 0, none⟩ = some (.slice none 0 0) := fun ob => ((E1.out.set 0 (.slice none 0 0)).alloc ob).cell 0
      refine bodyPost_ret (v := .tuple #[.agg #[.slice none 0 0], .int .i64 1]) (by simp [results, Try.results7, go_sem, z0]) rfl ?_
      obtain rfl : RD = [] := HN.out.trans (by simp)
      obtain rfl : RC = 1 := HC.out.trans (by simp)
      exact ⟨none, 0, [], rfl, bs_none, fun x hx => absurd hx List.not_mem_nil, (HW1.out.setCell (by simp) _).alloc (by simp only [World.size_setCell]; exact HW1.out.size) _⟩
    · have h1 : 255 < v := by
        rcases Int.lt_or_le 255 v with h | h
        · exact h
        · exact absurd (inB_of (by omega)) hq
      clear hq hq' ha
      go_wp2_with fail
      have z0 : ∀ ob, ((w1.setCell ⟨w.heap.size + 1, 0, none⟩ (.slice none 0 0)).alloc ob).cell? ⟨w.heap.size + 1, 0, none⟩ = some (.slice none 0 0) := fun ob => ((E1.out.set 0 (.slice none 0 0)).alloc ob).cell 0
      refine bodyPost_ret (v := .tuple #[.agg #[.slice none 0 0], .int .i64 1]) (by simp [results, Try.results7, go_sem, z0]) rfl ?_
      obtain rfl : RD = [] := HN.out.trans (by simp)
      obtain rfl : RC = 1 := HC.out.trans (by simp)
      exact ⟨none, 0, [], rfl, bs_none, fun x hx => absurd hx List.not_mem_nil, (HW1.out.setCell (by simp) _).alloc (by simp only [World.size_setCell]; exact HW1.out.size) _⟩
  rw [hq] at HN HC
  have hvb := of_inB hq
  have h0 : ¬ v < 0 := by omega
  have h1 : ¬ 255 < v := by omega
  go_wp2_with fail
  obtain ⟨a, rfl⟩ : ∃ a : Nat, addr = a := ⟨addr.toNat, by omega⟩
  refine (copiedV_any (Ty.below_w HR.out HW2.out) HSM.out).mono ?_
  rintro e w2 ⟨A', c', fp, rfl, hm, hfp, hb2⟩
  dsimp only
  have HM := Lib.hid hm
  have HFP := Lib.hid (show ∀ x ∈ fp, w1.heap.size + 1 ≤ x ∧ x < w2.heap.size from fun x hx => by have h := hfp x hx; simp only [World.size_alloc] at h; exact h)
  have HW3 := Lib.hid (HW2.out.trans (hb2.mono HW2.out.size))
  have Y3 := Lib.hid (Y2.out.below hb2 Y2.out.lt)
  have E3 := Lib.hid (Box.below (E1.out.alloc _) hb2 (E1.out.alloc _).lt)
  have z1 : w.heap.size + 1 < w1.heap.size := E1.out.lt
  have z2 : w1.heap.size + 1 ≤ w2.heap.size := by have h := hb2.size; simp only [World.size_alloc] at h; exact h
  clear hm hfp hb2 b0 bl e0 el ef
  have h16 : n3 = 16 := HS.out.p3.symm.trans l3
  subst h16
  have HG16 : Hid (n2 = 16) := Lib.hid (HS.out.p2.symm.trans l2)
  obtain ⟨b3, o3, rfl, hb3, hc3⟩ := row1 HS.out.r3 (show a / 4 < 16 by omega)
  generalize htt : (D.getD k zS).2.2.2.getD (a / 4) .empty = t at hc3
  have HP : Hid (pgV (D.getD k zS) a = t) := Lib.hid (by rw [← htt]; unfold pgV; rw [show ((a : Int) / 4).toNat = a / 4 by omega])
  have HH : Hid (hasV (D.getD k zS) a = (decide (0 ≤ l2AtV (arL (D.getD k zS).2.1) ((a / 4 : Nat) : Int)) && decide (t.size = 4))) := Lib.hid (by
    unfold hasV
    rw [HP.out, show (a : Int) / 4 = ((a / 4 : Nat) : Int) by omega])
  have HT : Hid (bsT (D.getD k zS) a v = setS t (a % 4) v) := Lib.hid (by
    unfold bsT
    rw [HP.out, show ((a : Int) % 4).toNat = a % 4 by omega])
  have HWR : Hid (wrV (D.getD k zS) a = (areaAt (D.getD k zS).2.1 (l2AtV (arL (D.getD k zS).2.1) ((a / 4 : Nat) : Int))).f2) := Lib.hid (by
    unfold wrV areaAt
    rw [show (a : Int) / 4 = ((a / 4 : Nat) : Int) by omega])
  rw [HH.out, HT.out, HWR.out, show ((a : Int) / 4).toNat = a / 4 by omega] at HN
  rw [HH.out, HWR.out] at HC
  have HC3 := Lib.hid hc3
  have HL4 := Lib.hid l4
  have HL2 := Lib.hid l2
  have HL3 := Lib.hid l3
  clear hc3 l1 l2 l3 l4 ha htt HP HH HT HWR
  have y0 := Y3.out.cell 0
  have y1 := Y3.out.cell 1
  have y2 := Y3.out.cell 2
  have y3 := Y3.out.cell 3
  have yl := Y3.out.lt
  simp at y0 y1 y2 y3
  go_wp2_with fail
  have HW4 := Lib.hid (HW3.out.alloc (o := .cells #[.slice A' D.length c'] 28) HW3.out.size)
  have O4 := Lib.hid (Box.new w2 #[.slice A' D.length c'] 28)
  have Y4 := Lib.hid (Y3.out.alloc (.cells #[.slice A' D.length c'] 28))
  have E3' := Lib.hid (E3.out.alloc (.cells #[.slice A' D.length c'] 28))
  have M3 := Lib.hid (show tyViews.M (w2.alloc (.cells #[.slice A' D.length c'] 28)) fp [.slice A' D.length c'] D from tyViews.mframe HM.out fun x hx => heap_alloc_old _ _ (HFP.out x hx).2)
  refine (atV_any (c1 := c1) (c2 := c2) (c3 := c3) (A2 := A2) (n2 := n2) (lv := true) a (by omega) (HS.out.r1.wb HW4.out) HS.out.p1 HL4.out (Nat.lt_of_lt_of_le hb3 HW4.out.size) ((kc HW4.out _ _ hb3).trans HC3.out)).mono ?_
  rintro e w3 ⟨q, rfl, hqq, hb4⟩
  dsimp only
  have HQQ := Lib.hid hqq
  have z3 : w2.heap.size + 1 ≤ w3.heap.size := by have h := hb4.size; simp only [World.size_alloc] at h; exact h
  have HW5 := Lib.hid (HW4.out.trans (hb4.mono HW4.out.size))
  have O5 := Lib.hid (O4.out.below hb4 O4.out.lt)
  have Y5 := Lib.hid (Y4.out.below hb4 Y4.out.lt)
  have E4 := Lib.hid (E3'.out.below hb4 E3'.out.lt)
  have M4 := Lib.hid (show tyViews.M w3 fp [.slice A' D.length c'] D from tyViews.mframe M3.out fun x hx => hb4.block x (by have h := HFP.out x hx; rw [World.size_alloc]; omega))
  generalize hzz : (decide (0 ≤ l2AtV (arL (D.getD k zS).2.1) ((a / 4 : Nat) : Int)) && decide (t.size = 4)) = zz at HN HC HQQ ⊢
  have HZZ := Lib.hid hzz
  clear hb4 hqq hzz y0 y1 y2 y3 yl M3 HM O4 Y4 E3'
  have e0 := E4.out.cell 0
  have el := E4.out.lt
  have ef := E4.out.frz 0
  have u0 := O5.out.cell 0
  have ul := O5.out.lt
  simp at e0 u0
  cases zz with
  | false =>
    go_wp2_with fail
    have z0 : ∀ ob, ((w3.setCell ⟨w.heap.size + 1, 0, none⟩ (.slice A' D.length c')).alloc ob).cell? ⟨w.heap.size + 1, 0, none⟩ = some (.slice A' D.length c') := fun ob => ((E4.out.set 0 (.slice A' D.length c')).alloc ob).cell 0
    refine bodyPost_ret (v := .tuple #[.agg #[.slice A' D.length c'], .int .i64 2]) (by simp [results, Try.results7, go_sem, z0]) rfl ?_
    obtain rfl : RD = D := HN.out.trans (by simp)
    obtain rfl : RC = 2 := HC.out.trans (by simp)
    exact ⟨A', c', fp, rfl, tyViews.mframe M4.out fun x hx => (heap_alloc_old _ _ (by have h := HFP.out x hx; rw [World.size_setCell]; omega)).trans (heap_setCell_other _ _ _ _ fun e => (by have e2 : x = w.heap.size + 1 := e; have h := HFP.out x hx; omega)), fun x hx => (by have h := HFP.out x hx; rw [World.size_alloc, World.size_setCell]; omega), (HW5.out.setCell (by simp) _).alloc (by simp only [World.size_setCell]; exact HW5.out.size) _⟩
  | true =>
    have hqe := HQQ.out rfl
    rw [← hqe] at HN HC
    clear hqe
    have h4 : t.size = 4 := of_decide_eq_true (Bool.and_eq_true_iff.1 HZZ.out).2
    have y2 := Y5.out.cell 2
    have y3 := Y5.out.cell 3
    have yl := Y5.out.lt
    simp at y2 y3
    have c3' := (kc HW5.out _ _ hb3).trans HC3.out
    have hb3' : b3 < w3.heap.size := Nat.lt_of_lt_of_le hb3 HW5.out.size
    have hqa : (a : Int).tdiv 4 = ((a / 4 : Nat) : Int) := (Int.ofNat_tdiv a 4).symm
    have hra : (a : Int).tmod 4 = ((a % 4 : Nat) : Int) := (Int.ofNat_tmod a 4).symm
    have hp1 : ((a / 4 : Nat) : Int) < 16 := by omega
    have hp2 : (0 : Int) ≤ ((a / 4 : Nat) : Int) := by omega
    generalize q.f2 = qw at HN HC ⊢
    generalize q.f0 = qf at ⊢
    generalize q.f1 = qm at ⊢
    generalize q.f3 = qs at ⊢
    clear HQQ
    cases qw with
    | false =>
      go_wp2_with fail
      have z0 : ∀ ob, ((w3.setCell ⟨w.heap.size + 1, 0, none⟩ (.slice A' D.length c')).alloc ob).cell? ⟨w.heap.size + 1, 0, none⟩ = some (.slice A' D.length c') := fun ob => ((E4.out.set 0 (.slice A' D.length c')).alloc ob).cell 0
      refine bodyPost_ret (v := .tuple #[.agg #[.slice A' D.length c'], .int .i64 3]) (by simp [results, Try.results7, go_sem, z0]) rfl ?_
      obtain rfl : RD = D := HN.out.trans (by simp)
      obtain rfl : RC = 3 := HC.out.trans (by simp)
      exact ⟨A', c', rfl, fp, tyViews.mframe M4.out fun x hx => (heap_alloc_old _ _ (by have h := HFP.out x hx; rw [World.size_setCell]; omega)).trans (heap_setCell_other _ _ _ _ fun e => (by have e2 : x = w.heap.size + 1 := e; have h := HFP.out x hx; omega)), fun x hx => (by have h := HFP.out x hx; rw [World.size_alloc, World.size_setCell]; omega), (HW5.out.setCell (by simp) _).alloc (by simp only [World.size_setCell]; exact HW5.out.size) _⟩
    | true =>
      obtain ⟨pb, po, pc, _, _, _, _, _, _, _, _, _, _, _, hOA⟩ := ownAt M4.out hk
      have hox := hOA.x
      simp only [Value.slice.injEq] at hox
      obtain ⟨rfl, -, rfl⟩ := hox
      clear hOA
      have M5 := Lib.hid (show tyViews.M (w3.alloc (.cells #[.int .i64 qf, .int .i64 qm, .bool true, .bool qs] 47)) fp [.slice (some ⟨pb, po, none⟩) D.length c'] D from tyViews.mframe M4.out fun x hx => heap_alloc_old _ _ (by have h := HFP.out x hx; omega))
      have O6 := Lib.hid (O5.out.alloc (.cells #[.int .i64 qf, .int .i64 qm, .bool true, .bool qs] 47))
      have Y6 := Lib.hid (Y5.out.alloc (.cells #[.int .i64 qf, .int .i64 qm, .bool true, .bool qs] 47))
      have E5 := Lib.hid (E4.out.alloc (.cells #[.int .i64 qf, .int .i64 qm, .bool true, .bool qs] 47))
      have c6 := (World.cell?_alloc_lt w3 (.cells #[.int .i64 qf, .int .i64 qm, .bool true, .bool qs] 47) ⟨b3, o3 + a / 4, none⟩ hb3').trans c3'
      have HW6 := Lib.hid (HW5.out.alloc (o := (.cells #[.int .i64 qf, .int .i64 qm, .bool true, .bool qs] 47)) HW5.out.size)
      have hvs : 0 ≤ v ∧ v ≤ 255 := hvb
      go_wp2_with fail
      obtain ⟨P, hP⟩ : ∃ P : Nat, a / 4 = P := ⟨_, rfl⟩
      obtain ⟨R, hR⟩ : ∃ R : Nat, a % 4 = R := ⟨_, rfl⟩
      rw [show (a : Int) / 4 = (P : Int) by omega]
      have hP1 : (P : Int) < 16 := by omega
      have hP0 : (0 : Int) ≤ (P : Int) := by omega
      have hR4 : R < 4 := by omega
      have d1 : (a : Int) % 4 = (R : Int) := by omega
      have d2 : (a : Int).tmod 4 = (R : Int) := by rw [hra, hR]
      have HP := Lib.hid hP
      have HR4 := Lib.hid hR
      rw [hP] at c6 HN
      rw [hR] at HN
      clear hP hR hqa hra hp1 hp2 c3'
      refine wp_region_held_drew (S := fun w' => w'.cell? ⟨w2.heap.size, 0, none⟩ = some (.slice (some ⟨pb, po, none⟩) D.length c') ∧ w'.cell? ⟨w1.heap.size, 3, none⟩ = some (.slice (some ⟨b3, o3, none⟩) 16 c3) ∧ w'.cell? ⟨b3, o3 + P, none⟩ = some (.string t)) (by kernel_rfl) ⟨O6.out.cell 0, Y6.out.cell 3, c6⟩ (fun hHeld => ?_)
      refine wpAnyH_take (i := 0) (v := ?vs0) rfl (by kernel_rfl) (by kernel_rfl) (by kernel_rfl) (fun _ _ _ h => h) (Or.inl ⟨by rfl, ?hys0⟩) (by assumption) ?rests0
      case hys0 =>
        intro w hSw
        try dsimp only at hSw
        go_simp
        try with_reducible rfl
      simp only [Act.put, List.setIfInBounds_toArray, List.set_cons_zero, List.set_cons_succ, List.getElem_toArray, List.getElem_cons_zero]
      refine wpAnyH_take (i := 1) (v := ?vs1) rfl (by kernel_rfl) (by kernel_rfl) (by kernel_rfl) (fun _ _ _ h => h) (Or.inl ⟨by rfl, ?hys1⟩) (by assumption) ?rests1
      case hys1 =>
        intro w hSw
        try dsimp only at hSw
        go_simp
        try with_reducible rfl
      simp only [Act.put, List.setIfInBounds_toArray, List.set_cons_zero, List.set_cons_succ, List.getElem_toArray, List.getElem_cons_zero, List.getElem_cons_succ]
      refine wpAnyH_take (i := 2) (v := ?vs2) rfl (by kernel_rfl) (by kernel_rfl) (by kernel_rfl) (fun _ _ _ h => h) (Or.inl ⟨by rfl, ?hys2⟩) (by assumption) ?rests2
      case hys2 =>
        intro w hSw
        try dsimp only at hSw
        go_simp
        try with_reducible rfl
      simp only [Act.put, List.setIfInBounds_toArray, List.set_cons_zero, List.set_cons_succ, List.getElem_toArray, List.getElem_cons_zero, List.getElem_cons_succ]
      refine wpAnyH_take (i := 3) (v := ?vs3) rfl (by kernel_rfl) (by kernel_rfl) (by kernel_rfl) (fun _ _ _ h => h) (Or.inl ⟨by rfl, ?hys3⟩) (by assumption) ?rests3
      case hys3 =>
        intro w hSw
        try dsimp only at hSw
        go_simp
        try with_reducible rfl
      simp only [Act.put, List.setIfInBounds_toArray, List.set_cons_zero, List.set_cons_succ, List.getElem_toArray, List.getElem_cons_zero, List.getElem_cons_succ]
      refine wpAnyH_take (i := 4) (v := ?vs4) rfl (by kernel_rfl) (by kernel_rfl) (by kernel_rfl) (fun _ _ _ h => h) (Or.inl ⟨by rfl, ?hys4⟩) (by assumption) ?rests4
      case hys4 =>
        intro w hSw
        try dsimp only at hSw
        go_simp
        try with_reducible rfl
      simp only [Act.put, List.setIfInBounds_toArray, List.set_cons_zero, List.set_cons_succ, List.getElem_toArray, List.getElem_cons_zero, List.getElem_cons_succ]
      refine wpAnyH_take (i := 5) (v := ?vs5) rfl (by kernel_rfl) (by kernel_rfl) (by kernel_rfl) (fun _ _ _ h => h) (Or.inl ⟨by rfl, ?hys5⟩) (by assumption) ?rests5
      case hys5 =>
        intro w hSw
        try dsimp only at hSw
        go_simp
        try with_reducible rfl
      simp only [Act.put, List.setIfInBounds_toArray, List.set_cons_zero, List.set_cons_succ, List.getElem_toArray, List.getElem_cons_zero, List.getElem_cons_succ]
      refine wpAnyH_take (i := 6) (v := ?vs6) rfl (by kernel_rfl) (by kernel_rfl) (by kernel_rfl) (fun _ _ _ h => h) (Or.inl ⟨by rfl, ?hys6⟩) (by assumption) ?rests6
      case hys6 =>
        intro w hSw
        try dsimp only at hSw
        go_simp
        try with_reducible rfl
      simp only [Act.put, List.setIfInBounds_toArray, List.set_cons_zero, List.set_cons_succ, List.getElem_toArray, List.getElem_cons_zero, List.getElem_cons_succ]
      refine wpAnyH_take (i := 7) (v := ?vs7) rfl (by kernel_rfl) (by kernel_rfl) (by kernel_rfl) (fun _ _ _ h => h) (Or.inl ⟨by rfl, ?hys7⟩) (by assumption) ?rests7
      case hys7 =>
        intro w hSw
        try dsimp only at hSw
        go_simp
        try with_reducible rfl
      simp only [Act.put, List.setIfInBounds_toArray, List.set_cons_zero, List.set_cons_succ, List.getElem_toArray, List.getElem_cons_zero, List.getElem_cons_succ]
      refine wpAnyH_take (i := 8) (v := ?vs8) rfl (by kernel_rfl) (by kernel_rfl) (by kernel_rfl) (fun _ _ _ h => h) (Or.inl ⟨by rfl, ?hys8⟩) (by assumption) ?rests8
      case hys8 =>
        intro w hSw
        try dsimp only at hSw
        go_simp
        try with_reducible rfl
      simp only [Act.put, List.setIfInBounds_toArray, List.set_cons_zero, List.set_cons_succ, List.getElem_toArray, List.getElem_cons_zero, List.getElem_cons_succ]
      refine wpAnyH_take (i := 9) (v := ?vs9) rfl (by kernel_rfl) (by kernel_rfl) (by kernel_rfl) (fun _ _ _ h => h) (Or.inl ⟨by rfl, ?hys9⟩) (by assumption) ?rests9
      case hys9 =>
        intro w hSw
        try dsimp only at hSw
        go_simp
        try with_reducible rfl
      simp only [Act.put, List.setIfInBounds_toArray, List.set_cons_zero, List.set_cons_succ, List.getElem_toArray, List.getElem_cons_zero, List.getElem_cons_succ]
      refine wpAnyH_take (i := 10) (v := ?vs10) rfl (by kernel_rfl) (by kernel_rfl) (by kernel_rfl) (fun _ _ _ h => h) (Or.inl ⟨by rfl, ?hys10⟩) (by assumption) ?rests10
      case hys10 =>
        intro w hSw
        try dsimp only at hSw
        go_simp
        try with_reducible rfl
      simp only [Act.put, List.setIfInBounds_toArray, List.set_cons_zero, List.set_cons_succ, List.getElem_toArray, List.getElem_cons_zero, List.getElem_cons_succ]
      refine wpAnyH_ready (rs := [11]) (by kernel_rfl) (by simp) ?_
      refine AllReadyH.cons rfl (fun K hK => ?_) AllReadyH.nil
      go_simp
      go_at_call 24
      refine (textWith_any t h4 R hR4 v hvs.1 hvs.2).mono ?_
      rintro e w5 ⟨rfl, hb5⟩
      have hb5w : Below (w3.alloc (.cells #[.int .i64 qf, .int .i64 qm, .bool true, .bool qs] 47)).heap.size (w3.alloc (.cells #[.int .i64 qf, .int .i64 qm, .bool true, .bool qs] 47)) w5 := (Below.refl (w3.alloc (.cells #[.int .i64 qf, .int .i64 qm, .bool true, .bool qs] 47)).heap.size (w3.alloc (.cells #[.int .i64 qf, .int .i64 qm, .bool true, .bool qs] 47))).drew.trans (hb5.mono (Nat.le_refl _))
      have O7 := Lib.hid (O6.out.below hb5w O6.out.lt)
      have Y7 := Lib.hid (Y6.out.below hb5w Y6.out.lt)
      have E6 := Lib.hid (E5.out.below hb5w E5.out.lt)
      have HW7 := Lib.hid (HW6.out.trans (hb5w.mono HW6.out.size))
      have z4 : w3.heap.size + 1 ≤ w5.heap.size := by have h := hb5w.size; rw [World.size_alloc] at h; exact h
      have M6 := Lib.hid (show tyViews.M w5 fp [.slice (some ⟨pb, po, none⟩) D.length c'] D from tyViews.mframe M5.out fun x hx => hb5w.block x (by have h := HFP.out x hx; rw [World.size_alloc]; omega))
      have c7 := (kc hb5w _ _ (show b3 < (w3.alloc (.cells #[.int .i64 qf, .int .i64 qm, .bool true, .bool qs] 47)).heap.size by rw [World.size_alloc]; omega)).trans c6
      clear hb5 hb5w c6
      refine hK.out _ _ ⟨O7.out.cell 0, Y7.out.cell 3, c7⟩ (fun hHeld => ?_)
      clear hK K
      try simp only [Act.put, List.setIfInBounds_toArray, List.set_cons_zero, List.set_cons_succ, List.getElem_toArray, List.getElem_cons_zero, List.getElem_cons_succ]
      refine wpAnyH_ready (rs := [12]) (by kernel_rfl) (by simp) ?_
      refine AllReadyH.cons rfl (fun K hK => ?_) AllReadyH.nil
      go_simp
      go_at_call 23
      refine (put_any (T := setS t R v) (p := P) M6.out (fun x hx => by have h := HFP.out x hx; omega) HDM.out hk (by omega) HL2.out HL3.out).mono ?_
      rintro e w6 ⟨rfl, hm6, hft⟩
      have O8 := Lib.hid (hft.box O7.out (fun hb => by have h := HFP.out _ hb; omega))
      have Y8 := Lib.hid (hft.box Y7.out (fun hb => by have h := HFP.out _ hb; omega))
      have E7 := Lib.hid (hft.box E6.out (fun hb => by have h := HFP.out _ hb; omega))
      have HW8 := Lib.hid (HW7.out.trans (hft.below (lo := w.heap.size) HW7.out.size fun x hx => by have h := HFP.out x hx; omega))
      have M7 := Lib.hid hm6
      have z5 := hft.size
      have c8 := (cell_of_block (hft.block b3 (by omega) (fun hb => by have h := HFP.out _ hb; omega)) (o3 + P)).trans c7
      clear hm6 hft c7
      refine hK.out _ _ ⟨O8.out.cell 0, Y8.out.cell 3, c8⟩ (fun hHeld => ?_)
      clear hK K
      try simp only [Act.put, List.setIfInBounds_toArray, List.set_cons_zero, List.set_cons_succ, List.getElem_toArray, List.getElem_cons_zero, List.getElem_cons_succ]
      refine wpAnyH_done (by kernel_rfl) ?_ _
      clear hHeld c8
      have e0 := E7.out.cell 0
      have el := E7.out.lt
      have ef := E7.out.frz 0
      have u0 := O8.out.cell 0
      have ul := O8.out.lt
      simp at e0 u0
      go_wp2_with fail
      refine bodyPost_ret (v := .tuple #[.agg #[.slice (some ⟨pb, po, none⟩) D.length c'], .int .i64 0]) (by simp [results, Try.results7, go_sem, e0]) rfl ?_
      obtain rfl : RD = bsP D k P (setS t R v) := HN.out.trans (by simp)
      obtain rfl : RC = 0 := HC.out.trans (by simp)
      have hl : (bsP D k P (setS t R v)).length = D.length := by
        obtain ⟨A9, n9, c9, hcs, hl9, _⟩ := M7.out
        simp only [List.cons.injEq, Value.slice.injEq, and_true] at hcs
        exact hl9.trans hcs.2.1.symm
      rw [hl]
      exact ⟨some ⟨pb, po, none⟩, c', fp, rfl, tyViews.mframe M7.out fun x hx => heap_setCell_other _ _ _ _ fun e => (by have e2 : x = w.heap.size + 1 := e; have h := HFP.out x hx; omega), fun x hx => (by have h := HFP.out x hx; rw [World.size_setCell]; omega), HW8.out.setCell (by simp) _⟩
end Go.Proofs.Ytnodmblieocamaa
