/-
  The walk of FnLockStep on drawn arguments.
-/
import Derived.Test.YtpnlmdnjpcjhjaaLDraw3
import Derived.Test.YtpnlmdnjpcjhjaaTqLock
import Derived.Test.YtpnlmdnjpcjhjaaLS6
namespace Go.Proofs.Ytpnlmdnjpcjhjaa
open Go.RowKit

section
variable {A : Option Addr} {n c : Nat} {w : World}
set_option maxHeartbeats 4000000 in
set_option maxRecDepth 100000 in
theorem dLockStep_walk (hOk : KOk 23) (hStp : KStp 30) (hc : Code w A n) (hcap : n ≤ c) (hcap2 : c ≤ maxLen) : Calls Try.prog 5 #[.slice A n c] w fun e w' => e = .returned (.bool true) ∧ Below w.heap.size w w' := by
  have hn := hc.1
  unfold maxLen at hn
  by_cases hbig : (1048576 : Int) < n
  · go_enter Try.func5, Try.ntmps5
    go_wp2_with fail
    go_ret
    exact ⟨rfl, Below.refl _ _⟩
  have HCODE := Lib.hid hc
  clear hc
  have HOK := Lib.hid hOk
  clear hOk
  have HSTP := Lib.hid hStp
  clear hStp
  have HW0 := Lib.hid (Below.refl w.heap.size w)
  go_enter Try.func5, Try.ntmps5
  have HA0 := Lib.hid (show Below w.heap.size w w from (Below.refl _ _))
  go_wp2_with fail
  refine (dDrawLockStep_any HCODE.out hcap hcap2).mono ?_
  rintro e w1 ⟨g0, d0, Al, dl, D0, fp0, x, rfl, hm0, hf0, hs0, _, hb1⟩
  have HC1 := Lib.hid (HA0.out.trans (hb1.mono HA0.out.size))
  have HW1 := Lib.hid (HW0.out.trans (HC1.out.mono HW0.out.size))
  clear hb1
  have HR0_1 := Lib.hid (tyLock.mr hm0 fun b hb => (hf0 b hb).2)
  have HS0 := Lib.hid (show smallLock D0 from ⟨by omega, by omega⟩)
  have HZ0 := Lib.hid hs0
  clear hm0 hf0 hs0
  obtain ⟨n0, hn0⟩ : ∃ n0, D0.2.1.length = n0 := ⟨_, rfl⟩
  obtain ⟨nl, hnl⟩ : ∃ nl, D0.2.2.length = nl := ⟨_, rfl⟩
  obtain ⟨W0, hW0⟩ : ∃ W0, D0.1 = W0 := ⟨_, rfl⟩
  have HN0 := Lib.hid hn0
  have HN2 := Lib.hid hnl
  have HV0 := Lib.hid hW0
  rw [hn0, hnl, hW0] at HR0_1 ⊢
  rw [hn0, hnl] at HZ0
  clear hn0 hnl hW0
  obtain ⟨D1, hD1⟩ : ∃ X : Lk, stpL D0 x = X := ⟨_, rfl⟩
  obtain ⟨r, hr⟩ : ∃ X : Bool, stpB D0 x = X := ⟨_, rfl⟩
  have HD1 := Lib.hid hD1
  have HRR := Lib.hid hr
  clear hD1 hr
  have HA1 := Lib.hid (show Below w1.heap.size w1 (w1.alloc (.cells #[.int .i64 W0, .slice (some ⟨g0, 0, none⟩) n0 d0, .slice Al nl dl] 28)) from ((Below.refl _ _).alloc (Nat.le_refl _) _))
  go_wp2_with fail
  refine (HSTP.out x (Ty.below_w HR0_1.out HA1.out) HS0.out).mono ?_
  rintro e w2 ⟨y10, y11, y12, fq1, rfl, hm1, hf1, hs1, hb2⟩
  have HC2 := Lib.hid (HA1.out.trans (hb2.mono HA1.out.size))
  have HW2 := Lib.hid (HW1.out.trans (HC2.out.mono HW1.out.size))
  have HR0_2 := Lib.hid (Ty.below_w HR0_1.out HC2.out)
  have C0_2 := Lib.hid ((Box.new w1 #[.int .i64 W0, .slice (some ⟨g0, 0, none⟩) n0 d0, .slice Al nl dl] 28).below hb2 (by simp only [World.size_alloc]; omega))
  clear hb2
  rw [HD1.out] at hm1 hs1
  rw [HRR.out]
  obtain ⟨E1, m1, o1, F1, q1, r1, hcs⟩ := tyLock_shM hm1
  simp only [List.cons.injEq, and_true] at hcs
  obtain ⟨rfl, rfl, rfl⟩ := hcs
  have HQ1_2 := Lib.hid (tyLock.mr hm1 fun b hb => (hf1 b hb).2)
  have HS1 := Lib.hid hs1
  clear hm1 hf1 hs1
  have HA2 := Lib.hid (show Below w2.heap.size w2 (w2.alloc (.cells #[.int .i64 (D1).1, .slice E1 m1 o1, .slice F1 q1 r1] 28)) from ((Below.refl _ _).alloc (Nat.le_refl _) _))
  have c0_c0 := C0_2.out.cell 0
  have c0_c1 := C0_2.out.cell 1
  have c0_c2 := C0_2.out.cell 2
  simp at c0_c0 c0_c1 c0_c2
  have c0_l := C0_2.out.lt
  go_wp2_with fail
  refine (lockStep_any x (Ty.below_w HR0_2.out HA2.out) HS0.out).mono ?_
  rintro e w3 ⟨y20, y21, y22, fq2, rfl, hm2, hf2, hs2, hb3⟩
  clear c0_c0 c0_c1 c0_c2 c0_l
  have HC3 := Lib.hid (HA2.out.trans (hb3.mono HA2.out.size))
  have HW3 := Lib.hid (HW2.out.trans (HC3.out.mono HW2.out.size))
  have HR0_3 := Lib.hid (Ty.below_w HR0_2.out HC3.out)
  have HQ1_3 := Lib.hid (Ty.below_w HQ1_2.out HC3.out)
  have C0_3 := Lib.hid (C0_2.out.below HC3.out C0_2.out.lt)
  have X_3 := Lib.hid ((Box.new w2 #[.int .i64 (D1).1, .slice E1 m1 o1, .slice F1 q1 r1] 28).below hb3 (by simp only [World.size_alloc]; omega))
  clear hb3
  rw [HD1.out] at hm2 hs2
  rw [HRR.out]
  obtain ⟨E2, m2, o2, F2, q2, r2, hcs⟩ := tyLock_shM hm2
  simp only [List.cons.injEq, and_true] at hcs
  obtain ⟨rfl, rfl, rfl⟩ := hcs
  have HQ2_3 := Lib.hid (tyLock.mr hm2 fun b hb => (hf2 b hb).2)
  have HS2 := Lib.hid hs2
  clear hm2 hf2 hs2
  have HA3 := Lib.hid (show Below w3.heap.size w3 (w3.alloc (.cells #[.int .i64 (D1).1, .slice E2 m2 o2, .slice F2 q2 r2] 28)) from ((Below.refl _ _).alloc (Nat.le_refl _) _))
  have c0_c0 := C0_3.out.cell 0
  have c0_c1 := C0_3.out.cell 1
  have c0_c2 := C0_3.out.cell 2
  have x_c0 := X_3.out.cell 0
  have x_c1 := X_3.out.cell 1
  have x_c2 := X_3.out.cell 2
  simp at c0_c0 c0_c1 c0_c2 x_c0 x_c1 x_c2
  have c0_l := C0_3.out.lt
  have x_l := X_3.out.lt
  go_wp2_with fail
  refine (qdLock_t (Ty.below_w HQ1_3.out HA3.out) (Ty.below_w HQ2_3.out HA3.out)).mono ?_
  rintro e w4 ⟨rfl, hb4⟩
  clear c0_c0 c0_c1 c0_c2 x_c0 x_c1 x_c2 c0_l x_l
  have HC4 := Lib.hid (HA3.out.trans (hb4.mono HA3.out.size))
  have HW4 := Lib.hid (HW3.out.trans (HC4.out.mono HW3.out.size))
  have HR0_4 := Lib.hid (Ty.below_w HR0_3.out HC4.out)
  have HQ1_4 := Lib.hid (Ty.below_w HQ1_3.out HC4.out)
  have HQ2_4 := Lib.hid (Ty.below_w HQ2_3.out HC4.out)
  have C0_4 := Lib.hid (C0_3.out.below HC4.out C0_3.out.lt)
  have X_4 := Lib.hid (X_3.out.below HC4.out X_3.out.lt)
  have Y_4 := Lib.hid ((Box.new w3 #[.int .i64 (D1).1, .slice E2 m2 o2, .slice F2 q2 r2] 28).below hb4 (by simp only [World.size_alloc]; omega))
  clear hb4
  have hbb : (r == r) = true := by simp
  cases r
  case false =>
    have HA4 := Lib.hid (show Below w4.heap.size w4 w4 from (Below.refl _ _))
    have c0_c0 := C0_4.out.cell 0
    have c0_c1 := C0_4.out.cell 1
    have c0_c2 := C0_4.out.cell 2
    have x_c0 := X_4.out.cell 0
    have x_c1 := X_4.out.cell 1
    have x_c2 := X_4.out.cell 2
    have y_c0 := Y_4.out.cell 0
    have y_c1 := Y_4.out.cell 1
    have y_c2 := Y_4.out.cell 2
    simp at c0_c0 c0_c1 c0_c2 x_c0 x_c1 x_c2 y_c0 y_c1 y_c2
    have c0_l := C0_4.out.lt
    have x_l := X_4.out.lt
    have y_l := Y_4.out.lt
    go_wp2_with fail
    go_ret
    exact ⟨rfl, HW4.out⟩
  clear hbb
  have hlw : lkB D0 = true ∧ mayL D0 x = true ∧ canB D0 x.toNat = true := by
    have h := HRR.out
    unfold stpB at h
    simp only [Bool.and_eq_true] at h
    exact h
  obtain ⟨q, hq, rfl, hq2⟩ := may_iff.1 hlw.2.1
  rw [hq2] at hlw
  have HLW := Lib.hid hlw
  have HOK0 := Lib.hid (lk_iff.1 hlw.1)
  have HDE := Lib.hid (show D1 = stepD D0 q from by rw [← HD1.out]; unfold stpL; rw [if_pos ⟨hlw.1, hlw.2.1⟩, hq2, if_pos hlw.2.2])
  have HOK1 := Lib.hid (show lkB D1 = true from by rw [HDE.out]; exact lk_iff.2 (step_ok HOK0.out hq hlw.2.2))
  obtain ⟨xx, hxx⟩ := step_law HOK0.out hq
  rw [← HDE.out] at hxx
  have HXX := Lib.hid hxx
  have HCH := Lib.hid (fun k => chg_le (D := D0) (E := D1) hxx (k := k))
  obtain ⟨Ao, no, co, A2o, n2o, c2o, hcs, ⟨_, _, hro⟩, _⟩ := tyLock_R HR0_4.out
  simp only [List.cons.injEq, Value.slice.injEq, and_true] at hcs
  obtain ⟨_, ⟨rfl, rfl, rfl⟩, ⟨rfl, rfl, rfl⟩⟩ := hcs
  have HROW := Lib.hid (rowL hro)
  obtain ⟨Ap, np, cp, A2p, n2p, c2p, hcs, ⟨hlp, _, hrp⟩, _⟩ := tyLock_R HQ1_4.out
  simp only [List.cons.injEq, Value.slice.injEq, and_true] at hcs
  obtain ⟨_, ⟨rfl, rfl, rfl⟩, ⟨rfl, rfl, rfl⟩⟩ := hcs
  have HROX := Lib.hid (rowL hrp)
  have hm1 : m1 = n0 := by
    rw [← hlp, HDE.out, ← HN0.out]
    have h := (run_ok (D := D0) (L := [(q : Int)]) HOK0.out (k := 1)).2.1
    have h2 : (runTo D0 [(q : Int)] 1).1 = stepD D0 q := by
      show (if mayL D0 (q : Int) = true ∧ canB D0 ((q : Int)).toNat = true then (stepD D0 ((q : Int)).toNat, (0 : Int) + 1) else (D0, 0)).1 = _
      rw [if_pos ⟨HLW.out.2.1, by rw [Int.toNat_natCast]; exact HLW.out.2.2⟩, Int.toNat_natCast]
    rw [h2] at h
    exact h
  subst hm1
  have hn4 : m1 ≤ 4 := HZ0.out.2.1
  clear hro hrp hlp hxx hlw hq hq2
  have c0_c0 := C0_4.out.cell 0
  have c0_c1 := C0_4.out.cell 1
  have c0_c2 := C0_4.out.cell 2
  have x_c0 := X_4.out.cell 0
  have x_c1 := X_4.out.cell 1
  have x_c2 := X_4.out.cell 2
  have y_c0 := Y_4.out.cell 0
  have y_c1 := Y_4.out.cell 1
  have y_c2 := Y_4.out.cell 2
  simp at c0_c0 c0_c1 c0_c2 x_c0 x_c1 x_c2 y_c0 y_c1 y_c2
  have c0_l := C0_4.out.lt
  have x_l := X_4.out.lt
  have y_l := Y_4.out.lt
  go_wp2_with fail
  go_loopw [10, 11] (fun cnt i wr => ∃ k : Nat, k ≤ m1 ∧ i = .int .i64 k ∧ cnt = .int .i64 (chgTo D0 D1 q k) ∧ Below w4.heap.size w4 wr) (fun _ i _ => m1 - (intOf i).toNat)
  case atStart => exact ⟨0, Nat.zero_le _, rfl, rfl, Below.refl _ _⟩
  case round =>
    obtain ⟨k, hk, rfl, rfl, hb⟩ := hrel
    have HBB := Lib.hid hb
    have BC := Lib.hid (C0_4.out.below hb C0_4.out.lt)
    have BX := Lib.hid (X_4.out.below hb X_4.out.lt)
    clear hb c0_c0 c0_c1 c0_c2 x_c0 x_c1 x_c2 y_c0 y_c1 y_c2 c0_l x_l y_l
    have p0 := BC.out.cell 0
    have p1 := BC.out.cell 1
    have p2 := BC.out.cell 2
    have pl := BC.out.lt
    have q0 := BX.out.cell 0
    have q1' := BX.out.cell 1
    have q2' := BX.out.cell 2
    have ql := BX.out.lt
    simp at p0 p1 p2 q0 q1' q2'
    have hch := HCH.out k
    have HC9 := Lib.hid (show chgTo D0 D1 q (k + 1) = chgTo D0 D1 q k + (if k ≠ q ∧ (th D0 k).f3 = true ∧ (th D1 k).f3 = false then 1 else 0) from rfl)
    obtain ⟨z, hz⟩ : ∃ z, chgTo D0 D1 q k = z := ⟨_, rfl⟩
    rw [hz] at HC9 hch
    rw [hz]
    have HZK := Lib.hid hz
    have hz1 : 0 ≤ z ∧ z ≤ 1 := by
      have h := hch
      by_cases hxk : xx < k
      · rw [if_pos hxk] at h; exact h
      · rw [if_neg hxk] at h; omega
    clear hz hch
    by_cases hlt : k < m1
    · obtain ⟨b, o, e, hb0, hc⟩ := HROW.out (by omega)
      injection e with e
      injection e with e1 e2
      subst e1 e2
      obtain ⟨b1, o1, rfl, hb1, hc1⟩ := HROX.out (by omega)
      have hk1 : (k : Int) < m1 := by omega
      have hk2 : (0 : Int) ≤ k := by omega
      obtain ⟨t0, t1, t2, t3⟩ := (hc k hlt).below HBB.out hb0
      obtain ⟨v0, v1, v2, v3⟩ := (hc1 k hlt).below HBB.out hb1
      have hb0' : g0 < wr.heap.size := Nat.lt_of_lt_of_le hb0 HBB.out.size
      have hb1' : b1 < wr.heap.size := Nat.lt_of_lt_of_le hb1 HBB.out.size
      simp only [Nat.zero_add] at t0 t1 t2 t3
      obtain ⟨t, ht⟩ : ∃ t, th D0 k = t := ⟨_, rfl⟩
      obtain ⟨s, hs⟩ : ∃ s, th D1 k = s := ⟨_, rfl⟩
      rw [show D0.2.1.getD k thZ = t from ht] at t0 t1 t2 t3
      rw [show D1.2.1.getD k thZ = s from hs] at v0 v1 v2 v3
      rw [ht, hs] at HC9
      have HXK := Lib.hid (show k ≠ q → s = t ∨ (t.f3 = true ∧ s = ⟨t.f0, t.f1, t.f2, false⟩) from fun hne => by
        rcases HXX.out k hne with h | h
        · exact Or.inl (by rw [← hs, ← ht]; exact h)
        · exact Or.inr (by rw [← hs, ← ht]; exact h.2))
      clear hc hc1 ht hs
      obtain ⟨f0, f1, f2, f3⟩ := t
      obtain ⟨s0, s1, s2, s3⟩ := s
      dsimp only at t0 t1 t2 t3 v0 v1 v2 v3 HC9 HXK
      have HB9 := Lib.hid ((HBB.out.alloc HBB.out.size (.cells #[.int .i64 f0, .int .i64 f1, .int .i64 f2, .bool f3] 41)).alloc (by have := HBB.out.size; simp only [World.size_alloc]; omega) (.cells #[.int .i64 s0, .int .i64 s1, .int .i64 s2, .bool s3] 41))
      by_cases hkq : k = q
      · subst hkq
        have HC8 := Lib.hid (show chgTo D0 D1 k (k + 1) = z from by rw [HC9.out, if_neg (fun h => h.1 rfl), Int.add_zero])
        go_wp2_with fail
        go_roundw
        case rel => exact ⟨k + 1, by omega, by go_num, by rw [HC8.out], HB9.out⟩
        case measure => simp [intOf]; omega
      · have hne : ((k : Int) != (q : Int)) = true := by rw [bne_iff_ne]; omega
        rcases HXK.out hkq with h | h
        · injection h with h0 h1 h2 h3
          subst h0 h1 h2 h3
          have HC8 := Lib.hid (show chgTo D0 D1 q (k + 1) = z from by rw [HC9.out, if_neg (fun h => by have h1 := h.2.1; rw [h.2.2] at h1; cases h1), Int.add_zero])
          clear hkq
          go_wp2_with fail
          go_roundw
          case rel => exact ⟨k + 1, by omega, by go_num, by rw [HC8.out], HB9.out⟩
          case measure => simp [intOf]; omega
        · obtain ⟨rfl, h⟩ := h
          injection h with h0 h1 h2 h3
          subst h0 h1 h2 h3
          have HC8 := Lib.hid (show chgTo D0 D1 q (k + 1) = z + 1 from by rw [HC9.out, if_pos ⟨hkq, rfl, rfl⟩])
          have hw1 : IntKind.i64.wrap (z + 1) = z + 1 := IntWalk.i64_in _ (by omega)
          have HB10 := Lib.hid ((HBB.out.alloc HBB.out.size (.cells #[.int .i64 s0, .int .i64 s1, .int .i64 s2, .bool false] 41)).alloc (by have := HBB.out.size; simp only [World.size_alloc]; omega) (.cells #[.int .i64 s0, .int .i64 s1, .int .i64 s2, .bool false] 41))
          clear hkq
          go_wp2_with fail
          go_roundw
          case rel => exact ⟨k + 1, by omega, by go_num, by rw [HC8.out], HB10.out⟩
          case measure => simp [intOf]; omega
    · obtain rfl : k = m1 := by omega
      have HRX := Lib.hid (Ty.below_w HQ1_4.out HBB.out)
      have hle : z ≤ 1 := hz1.2
      go_wp2_with fail
      refine (HOK.out HRX.out).mono ?_
      rw [HOK1.out]
      rintro e w99 ⟨rfl, hb99⟩
      go_wp2_with fail
      go_ret
      exact ⟨ret_bool (by simp), (HW4.out.trans (HBB.out.mono HW4.out.size)).trans (hb99.mono (HW4.out.trans (HBB.out.mono HW4.out.size)).size)⟩
end
end Go.Proofs.Ytpnlmdnjpcjhjaa
