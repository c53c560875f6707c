/-
  The model's BytesGet.
-/
import Derived.Test.YtegeilkpefancaaVSpec
namespace Go.Proofs.Ytegeilkpefancaa
open Go.RowKit

def BGet (f : Nat) : Prop := ∀ ⦃w : World⦄ ⦃hi : Nat⦄ ⦃x0 : Value⦄ ⦃D : DV⦄ (who addr : Int), tyViews.R w hi [x0] D → wfViews D → TopV D →
  Calls Try.prog f #[.agg #[x0], .int .i64 who, .int .i64 addr] w fun e w' => e = .returned (.tuple #[.int .i64 (getN D who addr), .int .i64 (getC D who addr)]) ∧ Below w.heap.size w w'
theorem wf_text {D : DV} (h : wfViews D) {k p : Nat} (hk : k < D.length) : ((D.getD k zS).2.2.2.getD p .empty).size ≤ maxLen := by
  have h1 : wfBytesOf (D.getD k zS) := h _ (getD_mem _ hk)
  have h2 : wfSString (D.getD k zS).2.2.2 := h1.2.2
  by_cases hp : p < (D.getD k zS).2.2.2.length
  · exact h2 _ (getD_mem _ hp)
  · rw [List.getD_eq_getElem?_getD, List.getElem?_eq_none (by omega)]
    simp [maxLen]
theorem live_parts {D : DV} {who : Int} (h : liveV D who = true) : ∃ k : Nat, who = k ∧ k < D.length ∧ (D.getD k zS).1 = true ∧ (D.getD k zS).2.2.1.length = 16 ∧ (D.getD k zS).2.2.2.length = 16 ∧ okL (arL (D.getD k zS).2.1) = true := by
  unfold liveV at h
  obtain ⟨h1, h2⟩ := Bool.and_eq_true_iff.1 h
  have := of_inB h1
  refine ⟨who.toNat, by omega, by omega, ?_⟩
  unfold liveS at h2
  obtain ⟨h3, h4⟩ := Bool.and_eq_true_iff.1 h2
  obtain ⟨h5, h6⟩ := Bool.and_eq_true_iff.1 h4
  obtain ⟨h7, h8⟩ := Bool.and_eq_true_iff.1 h6
  exact ⟨h3, of_decide_eq_true h5, of_decide_eq_true h7, h8⟩
theorem row1 {w : World} {hi n : Nat} {A : Option Addr} {l : List ByteArray} (h : RowF elS w hi A n l) {p : Nat} (hp : p < n) : ∃ b o, A = some ⟨b, o, none⟩ ∧ b < w.heap.size ∧ w.cell? ⟨b, o + p, none⟩ = some (.string (l.getD p .empty)) := by
  obtain ⟨b, o, e, _, hb, hc⟩ := h (by omega)
  have := hc p hp 0 (by decide)
  rw [show o + p * elS.K + 0 = o + p from by show o + p * 1 + 0 = o + p; omega] at this
  exact ⟨b, o, e, hb, this⟩

set_option maxHeartbeats 2000000 in
theorem bytesGet_any : BGet 21 := by
  intro w hi x0 D who addr h hwf _
  have HR := Lib.hid h
  have HWF := Lib.hid hwf
  obtain ⟨A, n, c, hcs, hl, hn, _⟩ := h
  simp only [List.cons.injEq, and_true] at hcs
  subst hcs
  clear hwf hl hn
  have HN := Lib.hid (show getN D who addr = if (liveV D who && inB addr 0 63) = true then (if hasV (D.getD who.toNat zS) addr = true then byV (pgV (D.getD who.toNat zS) addr) (addr % 4).toNat else -1) else -1 from rfl)
  have HC := Lib.hid (show getC D who addr = if (liveV D who && inB addr 0 63) = true then (if hasV (D.getD who.toNat zS) addr = true then 0 else 2) else 1 from rfl)
  have HW := Lib.hid (show Below w.heap.size w (w.alloc (.cells #[.slice A n c] 52)) from (Below.refl _ _).alloc (Nat.le_refl _) _)
  have X0 := Lib.hid (Box.new w #[.slice A n c] 52)
  go_enter Try.func21, Try.ntmps21
  go_wp2_with fail
  refine (l4Who_any who (Ty.below_w HR.out HW.out)).mono ?_
  rintro e w1 ⟨rfl, hb1⟩
  have HW1 := Lib.hid (HW.out.trans (hb1.mono HW.out.size))
  have X1 := Lib.hid (X0.out.below hb1 X0.out.lt)
  clear hb1
  by_cases hv : liveV D who = true
  rotate_left
  · have hv' : liveV D who = false := by simpa using hv
    rw [hv'] at HN HC ⊢
    clear hv hv'
    go_wp2_with fail
    refine bodyPost_ret (v := .tuple #[.int .i64 (-1), .int .i64 1]) (by simp [results, Try.results21, go_sem]) rfl ⟨by rw [HN.out, HC.out]; rfl, HW1.out⟩
  rw [hv] at HN HC ⊢
  go_wp2_with fail
  refine (l3Addr_any addr).mono ?_
  rintro e w2 ⟨rfl, rfl⟩
  by_cases ha : inB addr 0 63 = true
  rotate_left
  · have ha' : inB addr 0 63 = false := by simpa using ha
    rw [ha'] at HN HC ⊢
    clear ha ha' hv
    go_wp2_with fail
    refine bodyPost_ret (v := .tuple #[.int .i64 (-1), .int .i64 1]) (by simp [results, Try.results21, go_sem]) rfl ⟨by rw [HN.out, HC.out]; rfl, HW1.out⟩
  rw [ha] at HN HC ⊢
  have hab := of_inB ha
  obtain ⟨a, rfl⟩ : ∃ a : Nat, addr = a := ⟨addr.toNat, by omega⟩
  obtain ⟨k, rfl, hk, l1, l2, l3, l4⟩ := live_parts hv
  have HT := Lib.hid (wf_text (p := a / 4) HWF.out hk)
  obtain ⟨b, o, c', A1, n1, c1, A2, n2, c2, A3, n3, c3, hx, _, hbw, q0, q1, q2, q3, ⟨p1, m1, r1⟩, ⟨p2, m2, r2⟩, ⟨p3, m3, r3⟩⟩ := views_at HR.out hk
  simp only [Value.slice.injEq] at hx
  obtain ⟨rfl, rfl, rfl⟩ := hx
  rw [show (k : Int).toNat = k by omega] at HN HC
  clear ha hv HR HWF
  obtain ⟨ok1, ok2⟩ := okL_parts l4
  rw [arL_len] at ok1 ok2
  have HK1 := Lib.hid ok1
  generalize D.getD k zS = s at *
  obtain ⟨lv, la, lg, lt⟩ := s
  dsimp only at *
  subst l1
  have h16 : n3 = 16 := p3.symm.trans l3
  subst h16
  obtain ⟨b3, o3, rfl, hb3, hc3⟩ := row1 r3 (show a / 4 < 16 by omega)
  generalize htt : lt.getD (a / 4) .empty = t at hc3 HT
  have HP : Hid (pgV (true, la, lg, lt) a = t) := Lib.hid (by rw [← htt]; unfold pgV; rw [show ((a : Int) / 4).toNat = a / 4 by omega])
  have HH : Hid (hasV (true, la, lg, lt) a = (decide (0 ≤ l2AtV (arL la) ((a / 4 : Nat) : Int)) && decide (t.size = 4))) := Lib.hid (by
    unfold hasV
    rw [HP.out, show (a : Int) / 4 = ((a / 4 : Nat) : Int) by omega])
  rw [HP.out, HH.out, show ((a : Int) % 4).toNat = a % 4 by omega] at HN
  rw [HH.out] at HC
  have HR1 := Lib.hid r1
  have hn1 : n1 ≤ 6 := by omega
  rw [p1] at HK1
  have HP1 := Lib.hid p1
  clear r1 r2 r3 m1 m2 m3 p1 p2 p3 l2 l3 l4 ok1 ok2 HP HH htt
  have HT' := HT.out
  unfold maxLen at HT'
  have hqa : (a : Int).tdiv 4 = ((a / 4 : Nat) : Int) := (Int.ofNat_tdiv a 4).symm
  have hra : (a : Int).tmod 4 = ((a % 4 : Nat) : Int) := (Int.ofNat_tmod a 4).symm
  have hk1 : (k : Int) < D.length := by omega
  have hk2 : (0 : Int) ≤ k := by omega
  have hp1 : ((a / 4 : Nat) : Int) < 16 := by omega
  have hp2 : (0 : Int) ≤ ((a / 4 : Nat) : Int) := by omega
  rw [← kc HW1.out _ _ hbw] at q0 q1 q2 q3
  have HC3 := Lib.hid hc3
  have HB3 := Lib.hid hb3
  clear hc3 hb3
  have t0 := X1.out.cell 0
  have u0 := X1.out.lt
  simp at t0
  go_wp2_with fail
  have HW2 := Lib.hid (HW1.out.alloc (o := .cells #[.bool true, .slice A1 n1 c1, .slice A2 n2 c2, .slice (some ⟨b3, o3, none⟩) 16 c3] 112) HW1.out.size)
  have Y2 := Lib.hid (Box.new w1 #[.bool true, .slice A1 n1 c1, .slice A2 n2 c2, .slice (some ⟨b3, o3, none⟩) 16 c3] 112)
  refine (l2At_any (c := c1) ((a : Int) / 4) (HR1.out.rowA.below HW2.out) (by rw [arL_len]; exact HP1.out) (by omega) HK1.out).mono ?_
  rintro e w3 ⟨rfl, hb3⟩
  have HW3 := Lib.hid (HW2.out.trans (hb3.mono HW2.out.size))
  have Y3 := Lib.hid (Y2.out.below hb3 (by simp))
  rw [show (a : Int) / 4 = ((a / 4 : Nat) : Int) by omega]
  generalize l2AtV (arL la) ((a / 4 : Nat) : Int) = z at *
  have v0 := Y3.out.cell 0
  have v3 := Y3.out.cell 3
  have vl := Y3.out.lt
  simp at v0 v3
  have c3' := (kc HW3.out _ _ HB3.out).trans HC3.out
  clear q0 q1 q2 q3 t0 u0 hb3
  by_cases hz : 0 ≤ z
  rotate_left
  · have hz' : z < 0 := by omega
    rw [decide_eq_false hz] at HN HC
    clear hz
    go_wp2_with fail
    refine bodyPost_ret (v := .tuple #[.int .i64 (-1), .int .i64 2]) (by simp [results, Try.results21, go_sem]) rfl ⟨by rw [HN.out, HC.out]; simp, HW3.out⟩
  have hz' : ¬ z < 0 := by omega
  rw [decide_eq_true hz] at HN HC
  clear hz
  by_cases h4 : t.size = 4
  rotate_left
  · have e4 : ((t.size : Int) != 4) = true := by simp only [bne_iff_ne, ne_eq]; omega
    rw [decide_eq_false h4] at HN HC
    clear h4
    go_wp2_with fail
    refine bodyPost_ret (v := .tuple #[.int .i64 (-1), .int .i64 2]) (by simp [results, Try.results21, go_sem]) rfl ⟨by rw [HN.out, HC.out]; simp, HW3.out⟩
  have e4 : ((t.size : Int) != 4) = false := by simp only [bne_eq_false_iff_eq]; omega
  rw [decide_eq_true h4] at HN HC
  have hix : a % 4 < t.size := by omega
  have hby : ∀ h : a % 4 < t.size, ((t[a % 4]'h).toNat : Int) = byV t (a % 4) := byV_get t (a % 4)
  generalize byV t (a % 4) = y at *
  have hy : 0 ≤ y ∧ y ≤ 255 := by
    have h := hby hix
    have h2 := (t[a % 4]'hix).toNat_lt
    omega
  have hwy : IntKind.i64.wrap y = y := IntWalk.i64_in _ (by omega)
  have hix2 : ((a % 4 : Nat) : Int) < t.size := by omega
  have hix3 : (0 : Int) ≤ ((a % 4 : Nat) : Int) := by omega
  go_wp2_with fail
  refine bodyPost_ret (v := .tuple #[.int .i64 y, .int .i64 0]) (by simp [results, Try.results21, go_sem]) rfl ⟨by rw [HN.out, HC.out]; simp, HW3.out⟩
end Go.Proofs.Ytegeilkpefancaa
