/-
  The model's BytesSet.
-/
import Derived.Test.YtnodmblieocamaaVPut
import Derived.Test.YtnodmblieocamaaVSpec1
import Derived.BigRegion
namespace Go.Proofs.Ytnodmblieocamaa
open Go.RowKit

def wrV (s : DS) (addr : Int) : Bool := (s.2.1.getD (l2AtV (arL s.2.1) (addr / 4)).toNat elArea.z).f2
def bsGo (D : DV) (who addr v : Int) : Bool := liveV D who && (inB addr 0 63 && inB v 0 255)
def bsT (s : DS) (addr v : Int) : ByteArray := setS (pgV s addr) (addr % 4).toNat v
def bsP (D : DV) (who : Nat) (page : Nat) (t : ByteArray) : DV := outV ((D.getD who zS).2.2.1.getD page 0) t (D.set who (setTx (D.getD who zS) page t)) D.length
def bsC (D : DV) (who addr v : Int) : Int := if bsGo D who addr v = true then (if hasV (D.getD who.toNat zS) addr = true then (if wrV (D.getD who.toNat zS) addr = true then 0 else 3) else 2) else 1
def bsD (D : DV) (who addr v : Int) : DV := if bsGo D who addr v = true then (if hasV (D.getD who.toNat zS) addr = true then (if wrV (D.getD who.toNat zS) addr = true then bsP D who.toNat (addr / 4).toNat (bsT (D.getD who.toNat zS) addr v) else D) else D) else []
def BSet (f : Nat) : Prop := ∀ ⦃w : World⦄ ⦃hi : Nat⦄ ⦃x0 : Value⦄ ⦃D : DV⦄ (who addr v : Int), tyViews.R w hi [x0] D → wfViews D → TopV D → smallViews D →
  Calls Try.prog f #[.agg #[x0], .int .i64 who, .int .i64 addr, .int .i64 v] w fun e w' => ∃ A c fp, e = .returned (.tuple #[.agg #[.slice A (bsD D who addr v).length c], .int .i64 (bsC D who addr v)]) ∧ tyViews.M w' fp [.slice A (bsD D who addr v).length c] (bsD D who addr v) ∧ (∀ x ∈ fp, w.heap.size ≤ x ∧ x < w'.heap.size) ∧ Below w.heap.size w w'
theorem bs_none {w : World} : tyViews.M w [] [.slice none 0 0] [] := ⟨_, _, _, rfl, rfl, by decide, fun h => absurd h (Nat.lt_irrefl 0)⟩

set_option maxHeartbeats 8000000 in
set_option maxRecDepth 100000 in
theorem bytesSet_any : BSet 5 := by
  intro w hi x0 D who addr v h hwf _ hsm
  have HR := Lib.hid h
  have HR0 := Lib.hid h
  have HSM := Lib.hid hsm
  obtain ⟨A, n, c, hcs, hl, hn, _⟩ := h
  simp only [List.cons.injEq, and_true] at hcs
  subst hcs
  have HDM := Lib.hid (show D.length ≤ 1048576 by have h1 : totSBytesOf D ≤ 1048576 := hsm; unfold totSBytesOf at h1; omega)
  clear hwf hl hn hsm
  have HN := Lib.hid (show bsD D who addr v = if (liveV D who && (inB addr 0 63 && inB v 0 255)) = true then (if hasV (D.getD who.toNat zS) addr = true then (if wrV (D.getD who.toNat zS) addr = true then bsP D who.toNat (addr / 4).toNat (bsT (D.getD who.toNat zS) addr v) else D) else D) else [] from rfl)
  have HC := Lib.hid (show bsC D who addr v = if (liveV D who && (inB addr 0 63 && inB v 0 255)) = true then (if hasV (D.getD who.toNat zS) addr = true then (if wrV (D.getD who.toNat zS) addr = true then 0 else 3) else 2) else 1 from rfl)
  generalize bsD D who addr v = RD at HN ⊢
  generalize bsC D who addr v = RC at HC ⊢
  have B0 := Lib.hid ((Box.new w #[.slice A n c] 28).alloc (.cells #[.slice none 0 0] 28))
  have E0 := Lib.hid (Box.new (w.alloc (.cells #[.slice A n c] 28)) #[.slice none 0 0] 28)
  simp only [World.size_alloc] at E0
  have HW := Lib.hid (show Below w.heap.size w ((w.alloc (.cells #[.slice A n c] 28)).alloc (.cells #[.slice none 0 0] 28)) from ((Below.refl _ _).alloc (Nat.le_refl _) _).alloc (by simp only [World.size_alloc]; omega) _)
  go_enter Try.func5, Try.ntmps5
  go_wp2_with fail
  refine (l4Who_any who (Ty.below_w HR.out HW.out)).mono ?_
  rintro e w1 ⟨rfl, hb1⟩
  have HW1 := Lib.hid (HW.out.trans (hb1.mono HW.out.size))
  have B1 := Lib.hid (B0.out.below hb1 B0.out.lt)
  have E1 := Lib.hid (E0.out.below hb1 E0.out.lt)
  clear hb1
  have b0 := B1.out.cell 0
  have bl := B1.out.lt
  have e0 := E1.out.cell 0
  have el := E1.out.lt
  have ef := E1.out.frz 0
  simp at b0 e0
  by_cases hv : liveV D who = true
  rotate_left
  · have hv' : liveV D who = false := by simpa using hv
    rw [hv'] at HN HC ⊢
    clear hv hv'
    go_wp2_with fail
    have z0 := (E1.out.set 0 (.slice none 0 0)).cell 0
    simp at z0
    refine bodyPost_ret (v := .tuple #[.agg #[.slice none 0 0], .int .i64 1]) (by simp [results, Try.results5, go_sem, z0]) rfl ?_
    obtain rfl : RD = [] := HN.out.trans (by simp)
    obtain rfl : RC = 1 := HC.out.trans (by simp)
    exact ⟨none, 0, [], rfl, bs_none, fun x hx => absurd hx List.not_mem_nil, HW1.out.setCell (by simp) _⟩
  rw [hv] at HN HC ⊢
  go_wp2_with fail
  refine (l3Addr_any addr).mono ?_
  rintro e w2 ⟨rfl, rfl⟩
  by_cases ha : inB addr 0 63 = true
  rotate_left
  · have ha' : inB addr 0 63 = false := by simpa using ha
    rw [ha'] at HN HC ⊢
    clear ha ha' hv
    go_wp2_with fail
    have z0 := (E1.out.set 0 (.slice none 0 0)).cell 0
    simp at z0
    refine bodyPost_ret (v := .tuple #[.agg #[.slice none 0 0], .int .i64 1]) (by simp [results, Try.results5, go_sem, z0]) rfl ?_
    obtain rfl : RD = [] := HN.out.trans (by simp)
    obtain rfl : RC = 1 := HC.out.trans (by simp)
    exact ⟨none, 0, [], rfl, bs_none, fun x hx => absurd hx List.not_mem_nil, HW1.out.setCell (by simp) _⟩
  rw [ha] at HN HC ⊢
  go_wp2_with fail
  refine (l6In_any _ _ _ _).mono ?_
  rintro e w2 ⟨rfl, rfl⟩
  by_cases hq : inB v 0 255 = true
  rotate_left
  · have hq' : inB v 0 255 = false := by simpa using hq
    rw [hq'] at HN HC ⊢
    clear ha hq hq' hv
    go_wp2_with fail
    have z0 := (E1.out.set 0 (.slice none 0 0)).cell 0
    simp at z0
    refine bodyPost_ret (v := .tuple #[.agg #[.slice none 0 0], .int .i64 1]) (by simp [results, Try.results5, go_sem, z0]) rfl ?_
    obtain rfl : RD = [] := HN.out.trans (by simp)
    obtain rfl : RC = 1 := HC.out.trans (by simp)
    exact ⟨none, 0, [], rfl, bs_none, fun x hx => absurd hx List.not_mem_nil, HW1.out.setCell (by simp) _⟩
  rw [hq] at HN HC ⊢
  have hab := of_inB ha
  have hvb := of_inB hq
  obtain ⟨a, rfl⟩ : ∃ a : Nat, addr = a := ⟨addr.toNat, by omega⟩
  obtain ⟨k, rfl, hk, l1, l2, l3, l4⟩ := live_parts hv
  obtain ⟨b, o, c', A1, n1, c1, A2, n2, c2, A3, n3, c3, hx, _, hbw, q0, q1, q2, q3, ⟨p1, m1, r1⟩, ⟨p2, m2, r2⟩, ⟨p3, m3, r3⟩⟩ := views_at HR.out hk
  simp only [Value.slice.injEq] at hx
  obtain ⟨rfl, rfl, rfl⟩ := hx
  simp only [show (k : Int).toNat = k by omega] at HN HC
  clear ha hv hq HR
  obtain ⟨ok1, ok2⟩ := okL_parts l4
  rw [arL_len] at ok1 ok2
  have HK1 := Lib.hid ok1
  have HSG := Lib.hid (show (D.getD k zS).2.2.1 = (D.getD k zS).2.2.1 from rfl)
  generalize hS : D.getD k zS = s at *
  have HS := Lib.hid hS
  clear hS
  obtain ⟨lv, la, lg, lt⟩ := s
  dsimp only at *
  subst l1
  have h16 : n3 = 16 := p3.symm.trans l3
  subst h16
  have h16 : n2 = 16 := p2.symm.trans l2
  subst h16
  obtain ⟨b3, o3, rfl, hb3, hc3⟩ := row1 r3 (show a / 4 < 16 by omega)
  generalize htt : lt.getD (a / 4) .empty = t at hc3
  have HP : Hid (pgV (true, la, lg, lt) a = t) := Lib.hid (by rw [← htt]; unfold pgV; rw [show ((a : Int) / 4).toNat = a / 4 by omega])
  have HH : Hid (hasV (true, la, lg, lt) a = (decide (0 ≤ l2AtV (arL la) ((a / 4 : Nat) : Int)) && decide (t.size = 4))) := Lib.hid (by
    unfold hasV
    rw [HP.out, show (a : Int) / 4 = ((a / 4 : Nat) : Int) by omega])
  have HT : Hid (bsT (true, la, lg, lt) a v = setS t (a % 4) v) := Lib.hid (by
    unfold bsT
    rw [HP.out, show ((a : Int) % 4).toNat = a % 4 by omega])
  have HWR : Hid (wrV (true, la, lg, lt) a = (la.getD (l2AtV (arL la) ((a / 4 : Nat) : Int)).toNat elArea.z).f2) := Lib.hid (by
    unfold wrV
    rw [show (a : Int) / 4 = ((a / 4 : Nat) : Int) by omega])
  rw [HH.out, HT.out, HWR.out, show ((a : Int) / 4).toNat = a / 4 by omega] at HN
  rw [HH.out, HWR.out] at HC
  have HR1 := Lib.hid r1
  have HR2 := Lib.hid r2
  have HL3 := Lib.hid l3
  have HL2 := Lib.hid l2
  have hn1 : n1 ≤ 6 := by omega
  rw [p1] at HK1
  have HP1 := Lib.hid p1
  clear r1 r2 r3 m1 m2 m3 p1 p2 p3 l2 l3 l4 ok1 ok2 HP HH HT HWR htt HSG
  have hqa : (a : Int).tdiv 4 = ((a / 4 : Nat) : Int) := (Int.ofNat_tdiv a 4).symm
  have hra : (a : Int).tmod 4 = ((a % 4 : Nat) : Int) := (Int.ofNat_tmod a 4).symm
  have hk1 : (k : Int) < D.length := by omega
  have hk2 : (0 : Int) ≤ k := by omega
  have hp1 : ((a / 4 : Nat) : Int) < 16 := by omega
  have hp2 : (0 : Int) ≤ ((a / 4 : Nat) : Int) := by omega
  have HC3 := Lib.hid hc3
  have HB3 := Lib.hid hb3
  clear hc3 hb3
  go_wp2_with fail
  refine (l4Copy_any (Ty.below_w HR0.out HW1.out) HSM.out).mono ?_
  rintro e w2 ⟨A', c', fp, rfl, hm, hfp, hb2⟩
  have HM := Lib.hid hm
  have HFP := Lib.hid hfp
  have HSZ := Lib.hid hb2.size
  have HW2 := Lib.hid (HW1.out.trans (hb2.mono HW1.out.size))
  have B2 := Lib.hid (B1.out.below hb2 B1.out.lt)
  have E2 := Lib.hid (E1.out.below hb2 E1.out.lt)
  clear hm hfp hb2 b0 bl e0 el ef
  have b0 := B2.out.cell 0
  have bl := B2.out.lt
  have e0 := E2.out.cell 0
  have el := E2.out.lt
  have ef := E2.out.frz 0
  simp at b0 e0
  rw [← kc HW2.out _ _ hbw] at q0 q1 q2 q3
  have hbw2 : b < w2.heap.size := Nat.lt_of_lt_of_le hbw HW2.out.size
  have HB := Lib.hid hbw
  clear hbw
  go_wp2_with fail
  have SV := Lib.hid (show Box ((w2.alloc (.cells #[.slice A' D.length c'] 28)).alloc (.cells #[.bool true, .slice A1 n1 c1, .slice A2 16 c2, .slice (some ⟨b3, o3, none⟩) 16 c3] 44)) (w2.heap.size + 1) #[.bool true, .slice A1 n1 c1, .slice A2 16 c2, .slice (some ⟨b3, o3, none⟩) 16 c3] 44 from by
    have h := Box.new (w2.alloc (.cells #[.slice A' D.length c'] 28)) #[.bool true, .slice A1 n1 c1, .slice A2 16 c2, .slice (some ⟨b3, o3, none⟩) 16 c3] 44
    rw [World.size_alloc] at h
    exact h)
  have OV := Lib.hid ((Box.new w2 #[.slice A' D.length c'] 28).alloc (.cells #[.bool true, .slice A1 n1 c1, .slice A2 16 c2, .slice (some ⟨b3, o3, none⟩) 16 c3] 44))
  have HV3 := Lib.hid (show Below w2.heap.size w2 ((w2.alloc (.cells #[.slice A' D.length c'] 28)).alloc (.cells #[.bool true, .slice A1 n1 c1, .slice A2 16 c2, .slice (some ⟨b3, o3, none⟩) 16 c3] 44)) from ((Below.refl _ _).alloc (Nat.le_refl _) _).alloc (by simp only [World.size_alloc]; omega) _)
  refine (l2At_any (c := c1) ((a : Int) / 4) (HR1.out.rowA.below (HW2.out.trans (HV3.out.mono HW2.out.size))) (by rw [arL_len]; exact HP1.out) (by omega) HK1.out).mono ?_
  rintro e w3 ⟨rfl, hb3⟩
  have z1 : w.heap.size + 1 < w1.heap.size := E1.out.lt
  have z2 : w1.heap.size ≤ w2.heap.size := HSZ.out
  have z3 : w2.heap.size + 1 + 1 ≤ w3.heap.size := by have h := hb3.size; simp only [World.size_alloc] at h; exact h
  have HB3W := Lib.hid (HV3.out.trans (hb3.mono HV3.out.size))
  have HW3 := Lib.hid (HW2.out.trans (HB3W.out.mono HW2.out.size))
  have M3 := Lib.hid (tyViews.mframe HM.out fun x hx => HB3W.out.block x (HFP.out x hx).2)
  have B3 := Lib.hid (B2.out.below HB3W.out B2.out.lt)
  have E3 := Lib.hid (E2.out.below HB3W.out E2.out.lt)
  have SV3 := Lib.hid (SV.out.below hb3 SV.out.lt)
  have OV3 := Lib.hid (OV.out.below hb3 OV.out.lt)
  clear hb3 b0 bl e0 el ef HV3 SV OV q0 q1 q2 q3 hbw2
  have b0 := B3.out.cell 0
  have bl := B3.out.lt
  have e0 := E3.out.cell 0
  have el := E3.out.lt
  have ef := E3.out.frz 0
  have v1 := SV3.out.cell 1
  have v2 := SV3.out.cell 2
  have v3 := SV3.out.cell 3
  have vl := SV3.out.lt
  have u0 := OV3.out.cell 0
  have ul := OV3.out.lt
  simp at b0 e0 v1 v2 v3 u0
  have c3' := (kc HW3.out _ _ HB3.out).trans HC3.out
  rcases l2AtV_cases (arL la) ((a / 4 : Nat) : Int) with hz | ⟨j, hj, hz⟩
  · rw [hz] at HN HC
    rw [show (a : Int) / 4 = ((a / 4 : Nat) : Int) by omega, hz]
    clear hz
    have hn1' : ((-1 : Int) < 0) := by decide
    go_wp2_with fail
    have z0 := (E3.out.set 0 (.slice A' D.length c')).cell 0
    simp at z0
    refine bodyPost_ret (v := .tuple #[.agg #[.slice A' D.length c'], .int .i64 2]) (by simp [results, Try.results5, go_sem, z0]) rfl ?_
    obtain rfl : RD = D := HN.out.trans (by simp)
    obtain rfl : RC = 2 := HC.out.trans (by simp)
    exact ⟨A', c', fp, rfl, tyViews.mframe M3.out fun x hx => heap_setCell_other _ _ _ _ fun e => (by have e2 : x = w.heap.size + 1 := e; have h := HFP.out x hx; omega), fun x hx => (by have h := HFP.out x hx; rw [World.size_setCell]; omega), HW3.out.setCell (by simp) _⟩
  rw [show (a : Int) / 4 = ((a / 4 : Nat) : Int) by omega, hz]
  rw [hz] at HN HC
  rw [arL_len] at hj
  have hj0 : (0 : Int) ≤ j := by omega
  have hj1 : ¬ ((j : Int) < 0) := by omega
  rw [decide_eq_true hj0] at HN HC
  by_cases ht : t.size = 4
  rotate_left
  · have ht' : ¬ ((t.size : Int) = 4) := by omega
    rw [decide_eq_false ht] at HN HC
    have e4 : ((t.size : Int) != 4) = true := by simp only [bne_iff_ne, ne_eq]; omega
    go_wp2_with fail
    have z0 := (E3.out.set 0 (.slice A' D.length c')).cell 0
    simp at z0
    refine bodyPost_ret (v := .tuple #[.agg #[.slice A' D.length c'], .int .i64 2]) (by simp [results, Try.results5, go_sem, z0]) rfl ?_
    obtain rfl : RD = D := HN.out.trans (by simp)
    obtain rfl : RC = 2 := HC.out.trans (by simp)
    exact ⟨A', c', fp, rfl, tyViews.mframe M3.out fun x hx => heap_setCell_other _ _ _ _ fun e => (by have e2 : x = w.heap.size + 1 := e; have h := HFP.out x hx; omega), fun x hx => (by have h := HFP.out x hx; rw [World.size_setCell]; omega), HW3.out.setCell (by simp) _⟩
  rw [decide_eq_true ht, Int.toNat_natCast] at HN HC
  have ht' : ((t.size : Int) = 4) := by omega
  have e4 : ((t.size : Int) != 4) = false := by simp only [bne_eq_false_iff_eq]; omega
  have hjn : j < n1 := by have h := HP1.out; omega
  have hj2 : (j : Int) < n1 := by omega
  obtain ⟨b1, o1, rfl, _, hb1, hr1⟩ := HR1.out (by omega)
  have d2 : w.cell? ⟨b1, o1 + j * 4 + 2, none⟩ = some (.bool (la.getD j elArea.z).f2) := hr1 j hjn 2 (by decide)
  have d2 := (kc HW3.out _ _ hb1).trans d2
  clear hr1
  generalize (la.getD j elArea.z).f2 = wr at HN HC d2
  cases wr with
  | false =>
    go_wp2_with fail
    have z0 := (E3.out.set 0 (.slice A' D.length c')).cell 0
    simp at z0
    refine bodyPost_ret (v := .tuple #[.agg #[.slice A' D.length c'], .int .i64 3]) (by simp [results, Try.results5, go_sem, z0]) rfl ?_
    obtain rfl : RD = D := HN.out.trans (by simp)
    obtain rfl : RC = 3 := HC.out.trans (by simp)
    exact ⟨A', c', fp, rfl, tyViews.mframe M3.out fun x hx => heap_setCell_other _ _ _ _ fun e => (by have e2 : x = w.heap.size + 1 := e; have h := HFP.out x hx; omega), fun x hx => (by have h := HFP.out x hx; rw [World.size_setCell]; omega), HW3.out.setCell (by simp) _⟩
  | true =>
    go_wp2_with fail
    have hA4 : (a : Int) % 4 = ((a % 4 : Nat) : Int) := by omega
    rw [hA4]
    refine (l1Set_any t (a % 4) v ht (by omega) hvb.1 hvb.2 _).mono ?_
    rintro e w4 ⟨rfl, hb4⟩
    dsimp only
    have HD := Lib.hid (show RD = bsP D k (a / 4) (setS t (a % 4) v) from HN.out.trans (by simp))
    have HC0 := Lib.hid (show RC = 0 from HC.out.trans (by simp))
    generalize setS t (a % 4) v = T at HD ⊢
    clear HN HC
    have z4 : w3.heap.size ≤ w4.heap.size := hb4.size
    have HW4 := Lib.hid (HW3.out.trans (hb4.mono HW3.out.size))
    have M4 := Lib.hid (tyViews.mframe M3.out fun x hx => hb4.block x (by have h := HFP.out x hx; omega))
    have B4 := Lib.hid (B3.out.below hb4 B3.out.lt)
    have E4 := Lib.hid (E3.out.below hb4 E3.out.lt)
    have SV4 := Lib.hid (SV3.out.below hb4 SV3.out.lt)
    have OV4 := Lib.hid (OV3.out.below hb4 OV3.out.lt)
    clear hb4 b0 bl e0 el ef v1 v2 v3 vl u0 ul c3' d2 B3 E3 SV3 OV3 M3 HW3 HB3W
    obtain ⟨ob, oo, oc, Y1, y1, d1, Y2, y2, d2, Y3, y3, d3, f2, f3, hOA⟩ := ownAt M4.out hk
    have hox := hOA.x
    simp only [Value.slice.injEq] at hox
    obtain ⟨rfl, -, rfl⟩ := hox
    have hy3 := hOA.p3
    have hy2 := hOA.p2
    rw [HS.out] at hy3 hy2
    dsimp only at hy3 hy2
    have hlt16 := HL3.out
    obtain rfl : y3 = 16 := hy3.symm.trans hlt16
    obtain ⟨b5, o5, rfl, hb5f, hb5n, hb5, f5, h5⟩ := hOA.text (show a / 4 < 16 by omega)
    have q3 := hOA.q3
    have hob := hOA.lt
    have hob2 := hOA.mem
    have u0 := OV4.out.cell 0
    have ul := OV4.out.lt
    simp at u0
    have HOA := Lib.hid hOA
    have hoz : ob < w2.heap.size := (HFP.out ob hob2).2
    have hbz : b5 < w2.heap.size := (HFP.out b5 hb5f).2
    clear hOA hy3 hy2
    obtain ⟨b2, o2, rfl, _, hb2, hr2⟩ := HR2.out (by omega)
    have g2 : w.cell? ⟨b2, o2 + a / 4, none⟩ = some (.int .i64 (lg.getD (a / 4) 0)) := by
      have h := hr2 (a / 4) (by omega) 0 (by decide)
      rw [show o2 + a / 4 * elI.K + 0 = o2 + a / 4 from by show o2 + a / 4 * 1 + 0 = o2 + a / 4; omega] at h
      exact h
    have G2 := Lib.hid g2
    have GB := Lib.hid hb2
    clear hr2 g2 hb2
    have HBS : Hid (bsP D k (a / 4) T = outV (lg.getD (a / 4) 0) T (D.set k (setTx (D.getD k zS) (a / 4) T)) D.length) := Lib.hid (by unfold bsP; rw [HS.out])
    rw [HBS.out] at HD
    clear HBS
    have M5 := Lib.hid (HOA.out.put (a / 4) b5 o5 rfl (by omega) T)
    have W5 := Lib.hid (HW4.out.setCell (p := ⟨b5, o5 + a / 4, none⟩) (by have h := HFP.out b5 hb5f; show w.heap.size ≤ b5; omega) (.string T))
    have hne1 : w.heap.size ≠ b5 := by have h := HFP.out b5 hb5f; omega
    have hne2 : w.heap.size + 1 ≠ b5 := by have h := HFP.out b5 hb5f; omega
    have B5 := Lib.hid (B4.out.other (a := ⟨b5, o5 + a / 4, none⟩) hne1 (.string T))
    have E5 := Lib.hid (E4.out.other (a := ⟨b5, o5 + a / 4, none⟩) hne2 (.string T))
    have S5 := Lib.hid (SV4.out.other (a := ⟨b5, o5 + a / 4, none⟩) (show w2.heap.size + 1 ≠ b5 by omega) (.string T))
    have O5 := Lib.hid (OV4.out.other (a := ⟨b5, o5 + a / 4, none⟩) (show w2.heap.size ≠ b5 by omega) (.string T))
    have L5 : Hid ((D.set k (setTx (D.getD k zS) (a / 4) T)).length = D.length) := Lib.hid (List.length_set ..)
    have HTO := Lib.hid (show lg.getD (a / 4) 0 = lg.getD (a / 4) 0 from rfl)
    clear HTO
    go_wp2_with fail
    generalize D.set k (setTx (D.getD k zS) (a / 4) T) = D1 at HD M5 L5
    generalize lg.getD (a / 4) 0 = told at HD G2
    clear HOA HS HSM
    have HDL := Lib.hid (show D.length = D.length from rfl)
    clear HDL
    have hDm : D.length ≤ 1048576 := HDM.out
    clear q3 u0 ul h5 f5 hob hb5
    go_loopw [15] (fun i wr => ∃ n : Nat, n ≤ D.length ∧ i = .int .i64 n ∧ tyViews.M wr fp [.slice (some ⟨ob, oo, none⟩) D.length c'] (outV told T D1 n) ∧ Box wr w.heap.size #[.slice (some ⟨b, o, none⟩) D.length c] 28 ∧ Box wr (w.heap.size + 1) #[.slice none 0 0] 28 ∧ Box wr (w2.heap.size + 1) #[.bool true, .slice (some ⟨b1, o1, none⟩) n1 c1, .slice (some ⟨b2, o2, none⟩) 16 c2, .slice (some ⟨b3, o3, none⟩) 16 c3] 44 ∧ Box wr w2.heap.size #[.slice (some ⟨ob, oo, none⟩) D.length c'] 28 ∧ Below w.heap.size w wr) (fun i _ => D.length - (intOf i).toNat)
    case atStart => exact ⟨0, Nat.zero_le _, rfl, M5.out, B5.out, E5.out, S5.out, O5.out, W5.out⟩
    case round =>
      obtain ⟨n, hn, rfl, hm, hbb, hbe, hbs, hbo, hbw⟩ := hrel
      rename World => w6
      clear M5 W5 B5 E5 S5 O5 HM M4 HW4 B4 E4 SV4 OV4
      have MN := Lib.hid hm
      have BN := Lib.hid hbb
      have EN := Lib.hid hbe
      have SN := Lib.hid hbs
      have ON := Lib.hid hbo
      have WN := Lib.hid hbw
      clear hm hbb hbe hbs hbo hbw
      have u0 := ON.out.cell 0
      have ul := ON.out.lt
      simp at u0
      by_cases hlt : n < D.length
      · have hn1 : (n : Int) < D.length := by omega
        have hn0 : (0 : Int) ≤ n := by omega
        have hEL : (outV told T D1 n).length = D.length := by rw [outV_len, L5.out]
        have HON : Hid (outV told T D1 (n + 1) = inV told T (outV told T D1 n) n (minT ((outV told T D1 n).getD n zS))) := Lib.hid rfl
        go_wp2_with fail
        generalize outV told T D1 n = En at MN HON hEL
        have HEL := Lib.hid hEL
        clear hEL
        generalize hMN : minT (En.getD n zS) = N at HON
        have HMN := Lib.hid hMN
        clear hMN
        go_loopw [16] (fun i wr => ∃ m : Nat, m ≤ N ∧ i = .int .i64 m ∧ tyViews.M wr fp [.slice (some ⟨ob, oo, none⟩) D.length c'] (inV told T En n m) ∧ Box wr w.heap.size #[.slice (some ⟨b, o, none⟩) D.length c] 28 ∧ Box wr (w.heap.size + 1) #[.slice none 0 0] 28 ∧ Box wr (w2.heap.size + 1) #[.bool true, .slice (some ⟨b1, o1, none⟩) n1 c1, .slice (some ⟨b2, o2, none⟩) 16 c2, .slice (some ⟨b3, o3, none⟩) 16 c3] 44 ∧ Box wr w2.heap.size #[.slice (some ⟨ob, oo, none⟩) D.length c'] 28 ∧ Below w.heap.size w wr) (fun i _ => N - (intOf i).toNat)
        case atStart => exact ⟨0, Nat.zero_le _, rfl, MN.out, BN.out, EN.out, SN.out, ON.out, WN.out⟩
        case round =>
          obtain ⟨m, hmN, rfl, hm, hbb, hbe, hbs, hbo, hbw⟩ := hrel
          rename World => w7
          clear MN BN EN SN ON WN u0 ul
          have MN := Lib.hid hm
          have BN := Lib.hid hbb
          have EN := Lib.hid hbe
          have SN := Lib.hid hbs
          have ON := Lib.hid hbo
          have WN := Lib.hid hbw
          clear hm hbb hbe hbs hbo hbw
          have u0 := ON.out.cell 0
          have ul := ON.out.lt
          have v2 := SN.out.cell 2
          have vl := SN.out.lt
          simp at u0 v2
          have g2 := (kc WN.out _ _ GB.out).trans G2.out
          have LK := inV_like (told := told) (t := T) (D := En) (i := n) n m
          have hEl : (inV told T En n m).length = D.length := by rw [inV_len, HEL.out]
          obtain ⟨pb, po, pc, Y1, y1, d1, Y2, y2, d2, Y3, y3, d3, f2, f3, hOA⟩ := ownAt MN.out (show n < (inV told T En n m).length by rw [hEl]; exact hlt)
          have hox := hOA.x
          simp only [Value.slice.injEq, Option.some.injEq, Addr.mk.injEq] at hox
          obtain ⟨⟨rfl, rfl, -⟩, -, rfl⟩ := hox
          have hmin : min y2 y3 = N := by rw [← hOA.p2, ← hOA.p3, ← HMN.out, ← LK.minT]; rfl
          have q2 := hOA.q2
          have q3 := hOA.q3
          have hob := hOA.lt
          have hob2 := hOA.mem
          have hy2 := hOA.m2
          have hy3 := hOA.m3
          have HINV : Hid (inV told T En n (m + 1) = putT told T (inV told T En n m) n m) := Lib.hid rfl
          have HOA := Lib.hid hOA
          clear hOA hEl
          by_cases hlm : m < N
          · have hm2 : m < y2 := by omega
            have hm3 : m < y3 := by omega
            have hm2' : (m : Int) < y2 := by omega
            have hm3' : (m : Int) < y3 := by omega
            have hm0 : (0 : Int) ≤ m := by omega
            obtain ⟨b4, o4, rfl, hb4, h4⟩ := HOA.out.group hm2
            obtain ⟨b6, o6, rfl, hb6f, hb6n, hb6, f6, h6⟩ := HOA.out.text hm3
            have HPT : Hid (putT told T (inV told T En n m) n m = if told ≠ 0 ∧ ((inV told T En n m).getD n zS).2.2.1.getD m 0 = told then (inV told T En n m).set n (setTx ((inV told T En n m).getD n zS) m T) else inV told T En n m) := Lib.hid rfl
            rw [HPT.out] at HINV
            clear HPT
            have HPUT := Lib.hid (HOA.out.put m b6 o6 rfl hm3 T)
            generalize ((inV told T En n m).getD n zS).2.2.1.getD m 0 = g at h4 HINV
            generalize ((inV told T En n m).getD n zS).2.2.2.getD m ByteArray.empty = tx at h6
            have hb6z := HFP.out b6 hb6f
            by_cases h0 : told = 0
            · have e0 : (told != 0) = false := by simp [h0]
              have HI := Lib.hid (HINV.out.trans (if_neg fun h => h.1 h0))
              clear HINV h0
              go_wp2_with fail
              go_big_region
              go_wp2_with fail
              go_roundw
              case rel => exact ⟨m + 1, by omega, by go_num, by rw [HI.out]; exact tyViews.mframe MN.out fun x hx => rfl, BN.out, EN.out, SN.out, ON.out, by first | exact WN.out | exact WN.out.drew⟩
              case measure => simp [intOf]; omega
            · have e0 : (told != 0) = true := by simp [h0]
              by_cases h1 : g = told
              · have e1 : (g == told) = true := by simp [h1]
                have HI := Lib.hid (HINV.out.trans (if_pos ⟨h0, h1⟩))
                clear HINV h0 h1
                go_wp2_with fail
                go_big_region
                go_wp2_with fail
                go_roundw
                case rel => exact ⟨m + 1, by omega, by go_num, by rw [HI.out]; exact tyViews.mframe HPUT.out fun x hx => rfl, Box.other BN.out (by show w.heap.size ≠ b6; omega) _, Box.other EN.out (by show w.heap.size + 1 ≠ b6; omega) _, Box.other SN.out (by show w2.heap.size + 1 ≠ b6; omega) _, Box.other ON.out (by show w2.heap.size ≠ b6; omega) _, by first | exact WN.out.setCell (p := ⟨b6, o6 + m, none⟩) (by show w.heap.size ≤ b6; omega) _ | exact WN.out.drew.setCell (p := ⟨b6, o6 + m, none⟩) (by show w.heap.size ≤ b6; omega) _⟩
                case measure => simp [intOf]; omega
              · have e1 : (g == told) = false := by simp [h1]
                have HI := Lib.hid (HINV.out.trans (if_neg fun h => h1 h.2))
                clear HINV h0 h1
                go_wp2_with fail
                go_big_region
                go_wp2_with fail
                go_roundw
                case rel => exact ⟨m + 1, by omega, by go_num, by rw [HI.out]; exact tyViews.mframe MN.out fun x hx => rfl, BN.out, EN.out, SN.out, ON.out, by first | exact WN.out | exact WN.out.drew⟩
                case measure => simp [intOf]; omega
          · obtain rfl : m = N := by omega
            by_cases hm2 : m < y2
            · have hm2' : (m : Int) < y2 := by omega
              have hm3' : ¬ ((m : Int) < y3) := by omega
              go_wp2_with fail
              go_roundw
              case rel => exact ⟨n + 1, by omega, by go_num, by rw [HON.out]; exact MN.out, BN.out, EN.out, SN.out, ON.out, WN.out⟩
              case measure => simp [intOf]; omega
            · have hm2' : ¬ ((m : Int) < y2) := by omega
              go_wp2_with fail
              go_roundw
              case rel => exact ⟨n + 1, by omega, by go_num, by rw [HON.out]; exact MN.out, BN.out, EN.out, SN.out, ON.out, WN.out⟩
              case measure => simp [intOf]; omega
      · obtain rfl : n = D.length := by omega
        have hn1 : ¬ ((D.length : Int) < D.length) := by omega
        have e0 := EN.out.cell 0
        have el := EN.out.lt
        have ef := EN.out.frz 0
        simp at e0
        go_wp2_with fail
        have z0 := (EN.out.set 0 (.slice (some ⟨ob, oo, none⟩) D.length c')).cell 0
        simp at z0
        refine bodyPost_ret (v := .tuple #[.agg #[.slice (some ⟨ob, oo, none⟩) D.length c'], .int .i64 0]) (by simp [results, Try.results5, go_sem, z0]) rfl ?_
        have hRL : RD.length = D.length := by rw [HD.out, outV_len, L5.out]
        refine ⟨some ⟨ob, oo, none⟩, c', fp, by rw [hRL, HC0.out], ?_, fun x hx => (by have h := HFP.out x hx; rw [World.size_setCell]; omega), WN.out.setCell (by simp) _⟩
        rw [hRL, HD.out]
        exact tyViews.mframe MN.out fun x hx => heap_setCell_other _ _ _ _ fun e => (by have e2 : x = w.heap.size + 1 := e; have h := HFP.out x hx; omega)
end Go.Proofs.Ytnodmblieocamaa
