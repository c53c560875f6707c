/-
  The model's BytesSame.
-/
import Derived.Test.YtegeilkpefancaaVEqP
namespace Go.Proofs.Ytegeilkpefancaa
open Go.RowKit

def BSame (f : Nat) : Prop := ∀ ⦃w : World⦄ ⦃hi hi2 : Nat⦄ ⦃x0 y0 : Value⦄ ⦃D E : DV⦄, tyViews.R w hi [x0] D → tyViews.R w hi2 [y0] E →
  Calls Try.prog f #[.agg #[x0], .agg #[y0]] w fun e w' => e = .returned (.bool (eqL D E)) ∧ Below w.heap.size w w'
theorem ds_ext {s t : DS} (h0 : s.1 = t.1) (h1 : s.2.1 = t.2.1) (h2 : s.2.2.1 = t.2.2.1) (h3 : s.2.2.2 = t.2.2.2) : s = t := Prod.ext h0 (Prod.ext h1 (Prod.ext h2 h3))
set_option maxHeartbeats 8000000 in
set_option maxRecDepth 100000 in
theorem bytesSame_any : BSame 29 := by
  intro w hi hi2 x0 y0 D E hD hE
  have HD := Lib.hid hD
  have HE := Lib.hid hE
  obtain ⟨A, c, rfl, hL⟩ := lenV hD
  obtain ⟨B, d, rfl, hL2⟩ := lenV hE
  obtain ⟨r, hr⟩ : ∃ r, r = eqL D E := ⟨_, rfl⟩
  rw [← hr]
  have HV := Lib.hid hr
  unfold maxLen at hL hL2
  clear hD hE hr
  have B0 := Lib.hid ((Box.new w #[.slice A D.length c] 52).alloc (.cells #[.slice B E.length d] 52))
  have C0 := Lib.hid (Box.new (w.alloc (.cells #[.slice A D.length c] 52)) #[.slice B E.length d] 52)
  simp only [World.size_alloc] at C0
  have HW := Lib.hid (show Below w.heap.size w ((w.alloc (.cells #[.slice A D.length c] 52)).alloc (.cells #[.slice B E.length d] 52)) from ((Below.refl _ _).alloc (Nat.le_refl _) _).alloc (by simp only [World.size_alloc]; omega) _)
  by_cases hlen : D.length = E.length
  rotate_left
  · have e1 : ((D.length : Int) != E.length) = true := by simp only [bne_iff_ne, ne_eq]; omega
    have HF := Lib.hid (eqL_len hlen)
    clear hlen
    go_enter Try.func29, Try.ntmps29
    go_wp2_with fail
    go_ret
    exact ⟨ret_bool (by rw [HV.out, HF.out]), HW.out⟩
  have HLE := Lib.hid hlen
  rw [← hlen] at B0 C0 HW
  rw [← hlen]
  have e1 : ((D.length : Int) != D.length) = false := by simp
  generalize hNN : D.length = N at *
  have HNN := Lib.hid hNN
  clear hlen hNN hL2
  go_enter Try.func29, Try.ntmps29
  go_wp2_with fail
  go_loopw [5] (fun i wr => ∃ k : Nat, k ≤ N ∧ i = .int .i64 k ∧ Hid (∀ j, j < k → D.getD j zS = E.getD j zS) ∧ Box wr w.heap.size #[.slice A N c] 52 ∧ Box wr (w.heap.size + 1) #[.slice B N d] 52 ∧ Below w.heap.size w wr) (fun i _ => N - (intOf i).toNat)
  case atStart => exact ⟨0, Nat.zero_le _, rfl, Lib.hid fun j hj => absurd hj (Nat.not_lt_zero j), B0.out, C0.out, HW.out⟩
  case round =>
    rename World => w0
    obtain ⟨q, hq, rfl, HQS, hx, hy, hb⟩ := hrel
    clear B0 C0 HW
    have B0 := Lib.hid hx
    have C0 := Lib.hid hy
    have HW := Lib.hid hb
    clear hx hy hb
    have t0 := B0.out.cell 0
    have u0 := B0.out.lt
    have s0 := C0.out.cell 0
    have u1 := C0.out.lt
    simp at t0 s0
    by_cases hlq : q < N
    rotate_left
    · obtain rfl : q = N := by omega
      have HT := Lib.hid (eqL_yes zS (HNN.out.trans HLE.out) (fun j hj => HQS.out j (by rw [← HNN.out]; exact hj)))
      go_wp2_with fail
      go_ret
      exact ⟨ret_bool (by rw [HV.out, HT.out]), HW.out⟩
    obtain ⟨bx, ox, cx, A1, n1, c1, A2, n2, c2, A3, n3, c3, hSX⟩ := spAt HD.out (show q < D.length by rw [HNN.out]; exact hlq)
    obtain ⟨by', oy, cy, B1, m1, d1, B2, m2, d2, B3, m3, d3, hSY⟩ := spAt HE.out (show q < E.length by rw [← HLE.out]; exact hlq)
    have hxx := hSX.x
    have hyy := hSY.x
    simp only [Value.slice.injEq] at hxx hyy
    obtain ⟨rfl, -, rfl⟩ := hxx
    obtain ⟨rfl, -, rfl⟩ := hyy
    have SX := Lib.hid hSX
    have SY := Lib.hid hSY
    have hbx := hSX.lt
    have hby := hSY.lt
    clear hSX hSY
    have HNE := Lib.hid (fun (h : ¬ D.getD q zS = E.getD q zS) => eqL_no zS q h)
    have HOK := Lib.hid (fun (h : D.getD q zS = E.getD q zS) => upto_succ zS HQS.out h)
    have p0 := (kc HW.out _ _ hbx).trans SX.out.q0
    have p1 := (kc HW.out _ _ hbx).trans SX.out.q1
    have p2 := (kc HW.out _ _ hbx).trans SX.out.q2
    have p3 := (kc HW.out _ _ hbx).trans SX.out.q3
    have q0 := (kc HW.out _ _ hby).trans SY.out.q0
    have q1 := (kc HW.out _ _ hby).trans SY.out.q1
    have q2 := (kc HW.out _ _ hby).trans SY.out.q2
    have q3 := (kc HW.out _ _ hby).trans SY.out.q3
    have hsx : bx < w0.heap.size := Nat.lt_of_lt_of_le hbx HW.out.size
    have hsy : by' < w0.heap.size := Nat.lt_of_lt_of_le hby HW.out.size
    have hq1 : (q : Int) < N := by omega
    have hq2 : (0 : Int) ≤ q := by omega
    have R1 := Lib.hid SX.out.r1
    have R2 := Lib.hid SX.out.r2
    have R3 := Lib.hid SX.out.r3
    have S1 := Lib.hid SY.out.r1
    have S2 := Lib.hid SY.out.r2
    have S3 := Lib.hid SY.out.r3
    have hp1 := SX.out.p1
    have hp2 := SX.out.p2
    have hp3 := SX.out.p3
    have hm1 := SY.out.p1
    have hm2 := SY.out.p2
    have hm3 := SY.out.p3
    have k1 := SX.out.m1
    have k2 := SX.out.m2
    have k3 := SX.out.m3
    have j1 := SY.out.m1
    have j2 := SY.out.m2
    have j3 := SY.out.m3
    unfold maxLen at k1 k2 k3 j1 j2 j3
    clear SX SY HQS
    generalize D.getD q zS = S at *
    generalize E.getD q zS = T at *
    obtain ⟨xl, xa, xg, xt⟩ := S
    obtain ⟨yl, ya, yg, yt⟩ := T
    dsimp only at *
    have hlb : (xl != yl) = !(xl == yl) := rfl
    have X0 := Lib.hid ((Box.new w0 #[.bool xl, .slice A1 n1 c1, .slice A2 n2 c2, .slice A3 n3 c3] 112).alloc (.cells #[.bool yl, .slice B1 m1 d1, .slice B2 m2 d2, .slice B3 m3 d3] 112))
    have Y0 := Lib.hid (Box.new (w0.alloc (.cells #[.bool xl, .slice A1 n1 c1, .slice A2 n2 c2, .slice A3 n3 c3] 112)) #[.bool yl, .slice B1 m1 d1, .slice B2 m2 d2, .slice B3 m3 d3] 112)
    simp only [World.size_alloc] at Y0
    have HW1 := Lib.hid (show Below w0.heap.size w0 ((w0.alloc (.cells #[.bool xl, .slice A1 n1 c1, .slice A2 n2 c2, .slice A3 n3 c3] 112)).alloc (.cells #[.bool yl, .slice B1 m1 d1, .slice B2 m2 d2, .slice B3 m3 d3] 112)) from ((Below.refl _ _).alloc (Nat.le_refl _) _).alloc (by simp only [World.size_alloc]; omega) _)
    have HWA := Lib.hid (HW.out.trans (HW1.out.mono HW.out.size))
    by_cases hll : xl = yl
    rotate_left
    · have HF := Lib.hid (HNE.out (fun e => hll (by injection e)))
      cases xl <;> cases yl
      · exact absurd rfl hll
      · clear hll
        go_wp2_with fail
        go_ret
        exact ⟨ret_bool (by rw [HV.out, HF.out]), HWA.out⟩
      · clear hll
        go_wp2_with fail
        go_ret
        exact ⟨ret_bool (by rw [HV.out, HF.out]), HWA.out⟩
      · exact absurd rfl hll
    subst hll
    by_cases hl1 : n1 = m1
    rotate_left
    · have hb : ((n1 : Int) != m1) = true := by simp only [bne_iff_ne, ne_eq]; omega
      have HF := Lib.hid (HNE.out (fun e => hl1 (by rw [← hp1, ← hm1]; exact congrArg (fun s : DS => s.2.1.length) e)))
      clear hl1
      go_wp2_with fail
      go_ret
      exact ⟨ret_bool (by rw [HV.out, HF.out]), HWA.out⟩
    subst hl1
    by_cases hl2 : n2 = m2
    rotate_left
    · have hb : ((n2 : Int) != m2) = true := by simp only [bne_iff_ne, ne_eq]; omega
      have HF := Lib.hid (HNE.out (fun e => hl2 (by rw [← hp2, ← hm2]; exact congrArg (fun s : DS => s.2.2.1.length) e)))
      clear hl2
      go_wp2_with fail
      go_ret
      exact ⟨ret_bool (by rw [HV.out, HF.out]), HWA.out⟩
    subst hl2
    by_cases hl3 : n3 = m3
    rotate_left
    · have hb : ((n3 : Int) != m3) = true := by simp only [bne_iff_ne, ne_eq]; omega
      have HF := Lib.hid (HNE.out (fun e => hl3 (by rw [← hp3, ← hm3]; exact congrArg (fun s : DS => s.2.2.2.length) e)))
      clear hl3
      go_wp2_with fail
      go_ret
      exact ⟨ret_bool (by rw [HV.out, HF.out]), HWA.out⟩
    subst hl3
    go_wp2_with fail
    generalize hWW : ((w0.alloc (.cells #[.bool xl, .slice A1 n1 c1, .slice A2 n2 c2, .slice A3 n3 c3] 112)).alloc (.cells #[.bool xl, .slice B1 n1 d1, .slice B2 n2 d2, .slice B3 n3 d3] 112)) = W at X0 Y0 HW1 HWA ⊢
    clear hWW p0 p1 p2 p3 q0 q1 q2 q3 t0 s0
    have ha1 : xa.length = ya.length := hp1.trans hm1.symm
    have ha2 : xg.length = yg.length := hp2.trans hm2.symm
    have ha3 : xt.length = yt.length := hp3.trans hm3.symm
    go_loopw [8] (fun i w1 => ∃ k : Nat, k ≤ n1 ∧ i = .int .i64 k ∧ Hid (∀ j, j < k → xa.getD j elArea.z = ya.getD j elArea.z) ∧ Below W.heap.size W w1) (fun i _ => n1 - (intOf i).toNat)
    case atStart => exact ⟨0, Nat.zero_le _, rfl, Lib.hid fun j hj => absurd hj (Nat.not_lt_zero j), Below.refl _ _⟩
    case round =>
      rename World => w1
      obtain ⟨k, hk, rfl, HEJ, hb⟩ := hrel
      have HQ1 := Lib.hid hb
      have HB1 := Lib.hid (HWA.out.trans (hb.mono HWA.out.size))
      have X1 := Lib.hid (X0.out.below hb X0.out.lt)
      have Y1 := Lib.hid (Y0.out.below hb Y0.out.lt)
      have HR1 := Lib.hid (HW1.out.trans (hb.mono HW1.out.size))
      have e1 := X1.out.cell 1
      have g1 := Y1.out.cell 1
      have el1 := X1.out.lt
      have gl1 := Y1.out.lt
      simp at e1 g1
      clear hb
      by_cases hlt : k < n1
      · obtain ⟨b1, o1, rfl, _, hb1, hc⟩ := R1.out (by omega)
        obtain ⟨b2, o2, rfl, _, hb2, hd⟩ := S1.out (by omega)
        have hk1 : (k : Int) < n1 := by omega
        have hk2 : (0 : Int) ≤ k := by omega
        have HS := Lib.hid (fun h => upto_succ elArea.z HEJ.out (k := k) h)
        have HNO := Lib.hid (fun h => eqL_no (l := xa) (m := ya) elArea.z k h)
        have c0 : w.cell? ⟨b1, o1 + k * 4, none⟩ = some (.int .i64 (xa.getD k elArea.z).f0) := by
          have h := hc k hlt 0 (by decide)
          rw [show o1 + k * elArea.K + 0 = o1 + k * 4 from by show o1 + k * 4 + 0 = o1 + k * 4; omega] at h
          exact h
        have c1 : w.cell? ⟨b1, o1 + k * 4 + 1, none⟩ = some (.int .i64 (xa.getD k elArea.z).f1) := by
          have h := hc k hlt 1 (by decide)
          rw [show o1 + k * elArea.K + 1 = o1 + k * 4 + 1 from by show o1 + k * 4 + 1 = o1 + k * 4 + 1; omega] at h
          exact h
        have c2 : w.cell? ⟨b1, o1 + k * 4 + 2, none⟩ = some (.bool (xa.getD k elArea.z).f2) := by
          have h := hc k hlt 2 (by decide)
          rw [show o1 + k * elArea.K + 2 = o1 + k * 4 + 2 from by show o1 + k * 4 + 2 = o1 + k * 4 + 2; omega] at h
          exact h
        have c3 : w.cell? ⟨b1, o1 + k * 4 + 3, none⟩ = some (.bool (xa.getD k elArea.z).f3) := by
          have h := hc k hlt 3 (by decide)
          rw [show o1 + k * elArea.K + 3 = o1 + k * 4 + 3 from by show o1 + k * 4 + 3 = o1 + k * 4 + 3; omega] at h
          exact h
        have d0 : w.cell? ⟨b2, o2 + k * 4, none⟩ = some (.int .i64 (ya.getD k elArea.z).f0) := by
          have h := hd k hlt 0 (by decide)
          rw [show o2 + k * elArea.K + 0 = o2 + k * 4 from by show o2 + k * 4 + 0 = o2 + k * 4; omega] at h
          exact h
        have d1 : w.cell? ⟨b2, o2 + k * 4 + 1, none⟩ = some (.int .i64 (ya.getD k elArea.z).f1) := by
          have h := hd k hlt 1 (by decide)
          rw [show o2 + k * elArea.K + 1 = o2 + k * 4 + 1 from by show o2 + k * 4 + 1 = o2 + k * 4 + 1; omega] at h
          exact h
        have d2 : w.cell? ⟨b2, o2 + k * 4 + 2, none⟩ = some (.bool (ya.getD k elArea.z).f2) := by
          have h := hd k hlt 2 (by decide)
          rw [show o2 + k * elArea.K + 2 = o2 + k * 4 + 2 from by show o2 + k * 4 + 2 = o2 + k * 4 + 2; omega] at h
          exact h
        have d3 : w.cell? ⟨b2, o2 + k * 4 + 3, none⟩ = some (.bool (ya.getD k elArea.z).f3) := by
          have h := hd k hlt 3 (by decide)
          rw [show o2 + k * elArea.K + 3 = o2 + k * 4 + 3 from by show o2 + k * 4 + 3 = o2 + k * 4 + 3; omega] at h
          exact h
        rw [← kc HB1.out _ _ hb1] at c0 c1 c2 c3
        rw [← kc HB1.out _ _ hb2] at d0 d1 d2 d3
        generalize xa.getD k elArea.z = a at c0 c1 c2 c3 HS HNO
        generalize ya.getD k elArea.z = b at d0 d1 d2 d3 HS HNO
        clear hc hd
        have hn := area_neq a b
        have hgd : ∀ (w : World) (x y : Operand), (eqGuard .neq 106 x y (.agg #[.int .i64 a.f0, .int .i64 a.f1, .bool a.f2, .bool a.f3]) (.agg #[.int .i64 b.f0, .int .i64 b.f1, .bool b.f2, .bool b.f3])).run Try.prog w = .ok () w := fun w x y => run_eqGuard_agg w _ _ _ _ _ _ area_guard
        by_cases hab : a = b
        · have HS2 := Lib.hid (HS.out hab)
          have hse : sameE a b = true := sameE_iff.2 hab
          rw [hse] at hn
          clear hab HS HNO
          go_wp2
          go_quiet (fail)
          go_wp2
          go_roundw
          case rel => exact ⟨k + 1, by omega, by go_num, HS2, bel_drewN HQ1.out _⟩
          case measure => simp [intOf]; omega
        · have HF := Lib.hid (HNO.out hab)
          have hse : sameE a b = false := by
            cases h : sameE a b
            · rfl
            · exact absurd (sameE_iff.1 h) hab
          rw [hse] at hn
          clear hab HS HNO
          go_wp2
          go_quiet (fail)
          go_wp2
          go_ret
          exact ⟨ret_bool (by rw [HV.out, HNE.out (fun e => not_eqL HF.out (congrArg (fun s : DS => s.2.1) e))]), bel_drewN HB1.out _⟩
      · obtain rfl : k = n1 := by omega
        have HE1 := Lib.hid (of_eqL (eqL_yes elArea.z ha1 (fun j hj => HEJ.out j (by rw [← hp1]; exact hj))))
        go_wp2_with fail
        clear e1 g1 HEJ
        go_loopw [9] (fun i w2 => ∃ k : Nat, k ≤ n2 ∧ i = .int .i64 k ∧ Hid (∀ j, j < k → xg.getD j elI.z = yg.getD j elI.z) ∧ Below w1.heap.size w1 w2) (fun i _ => n2 - (intOf i).toNat)
        case atStart => exact ⟨0, Nat.zero_le _, rfl, Lib.hid fun j hj => absurd hj (Nat.not_lt_zero j), Below.refl _ _⟩
        case round =>
          rename World => w2
          obtain ⟨k, hk, rfl, HEJ, hb⟩ := hrel
          have HQ2 := Lib.hid hb
          have HB2 := Lib.hid (HB1.out.trans (hb.mono HB1.out.size))
          have X2 := Lib.hid (X1.out.below hb X1.out.lt)
          have Y2 := Lib.hid (Y1.out.below hb Y1.out.lt)
          have HR2 := Lib.hid (HR1.out.trans (hb.mono HR1.out.size))
          have e2 := X2.out.cell 2
          have g2 := Y2.out.cell 2
          have el2 := X2.out.lt
          have gl2 := Y2.out.lt
          simp at e2 g2
          clear hb
          by_cases hlt : k < n2
          · obtain ⟨b1, o1, rfl, _, hb1, hc⟩ := R2.out (by omega)
            obtain ⟨b2, o2, rfl, _, hb2, hd⟩ := S2.out (by omega)
            have hk1 : (k : Int) < n2 := by omega
            have hk2 : (0 : Int) ≤ k := by omega
            have HS := Lib.hid (fun h => upto_succ elI.z HEJ.out (k := k) h)
            have HNO := Lib.hid (fun h => eqL_no (l := xg) (m := yg) elI.z k h)
            have c0 : w.cell? ⟨b1, o1 + k, none⟩ = some (.int .i64 (xg.getD k elI.z)) := by
              have h := hc k hlt 0 (by decide)
              rw [show o1 + k * elI.K + 0 = o1 + k from by show o1 + k * 1 + 0 = o1 + k; omega] at h
              exact h
            have d0 : w.cell? ⟨b2, o2 + k, none⟩ = some (.int .i64 (yg.getD k elI.z)) := by
              have h := hd k hlt 0 (by decide)
              rw [show o2 + k * elI.K + 0 = o2 + k from by show o2 + k * 1 + 0 = o2 + k; omega] at h
              exact h
            rw [← kc HB2.out _ _ hb1] at c0
            rw [← kc HB2.out _ _ hb2] at d0
            generalize xg.getD k elI.z = a at c0 HS HNO
            generalize yg.getD k elI.z = b at d0 HS HNO
            clear hc hd
            by_cases hab : a = b
            · have HS2 := Lib.hid (HS.out hab)
              have hse : (a == b) = true := by simpa using hab
              have hsn : (a != b) = false := by simpa using hab
              clear hab HS HNO
              go_wp2
              go_quiet (fail)
              go_wp2
              go_roundw
              case rel => exact ⟨k + 1, by omega, by go_num, HS2, bel_drewN HQ2.out _⟩
              case measure => simp [intOf]; omega
            · have HF := Lib.hid (HNO.out hab)
              have hse : (a == b) = false := by simpa using hab
              have hsn : (a != b) = true := by simpa using hab
              clear hab HS HNO
              go_wp2
              go_quiet (fail)
              go_wp2
              go_ret
              exact ⟨ret_bool (by rw [HV.out, HNE.out (fun e => not_eqL HF.out (congrArg (fun s : DS => s.2.2.1) e))]), bel_drewN HB2.out _⟩
          · obtain rfl : k = n2 := by omega
            have HE2 := Lib.hid (of_eqL (eqL_yes elI.z ha2 (fun j hj => HEJ.out j (by rw [← hp2]; exact hj))))
            go_wp2_with fail
            clear e2 g2 HEJ
            go_loopw [10] (fun i w3 => ∃ k : Nat, k ≤ n3 ∧ i = .int .i64 k ∧ Hid (∀ j, j < k → xt.getD j elS.z = yt.getD j elS.z) ∧ Below w2.heap.size w2 w3) (fun i _ => n3 - (intOf i).toNat)
            case atStart => exact ⟨0, Nat.zero_le _, rfl, Lib.hid fun j hj => absurd hj (Nat.not_lt_zero j), Below.refl _ _⟩
            case round =>
              rename World => w3
              obtain ⟨k, hk, rfl, HEJ, hb⟩ := hrel
              have HQ3 := Lib.hid hb
              have HB3 := Lib.hid (HB2.out.trans (hb.mono HB2.out.size))
              have X3 := Lib.hid (X2.out.below hb X2.out.lt)
              have Y3 := Lib.hid (Y2.out.below hb Y2.out.lt)
              have HR3 := Lib.hid (HR2.out.trans (hb.mono HR2.out.size))
              have e3 := X3.out.cell 3
              have g3 := Y3.out.cell 3
              have el3 := X3.out.lt
              have gl3 := Y3.out.lt
              simp at e3 g3
              clear hb
              by_cases hlt : k < n3
              · obtain ⟨b1, o1, rfl, _, hb1, hc⟩ := R3.out (by omega)
                obtain ⟨b2, o2, rfl, _, hb2, hd⟩ := S3.out (by omega)
                have hk1 : (k : Int) < n3 := by omega
                have hk2 : (0 : Int) ≤ k := by omega
                have HS := Lib.hid (fun h => upto_succ elS.z HEJ.out (k := k) h)
                have HNO := Lib.hid (fun h => eqL_no (l := xt) (m := yt) elS.z k h)
                have c0 : w.cell? ⟨b1, o1 + k, none⟩ = some (.string (xt.getD k elS.z)) := by
                  have h := hc k hlt 0 (by decide)
                  rw [show o1 + k * elS.K + 0 = o1 + k from by show o1 + k * 1 + 0 = o1 + k; omega] at h
                  exact h
                have d0 : w.cell? ⟨b2, o2 + k, none⟩ = some (.string (yt.getD k elS.z)) := by
                  have h := hd k hlt 0 (by decide)
                  rw [show o2 + k * elS.K + 0 = o2 + k from by show o2 + k * 1 + 0 = o2 + k; omega] at h
                  exact h
                rw [← kc HB3.out _ _ hb1] at c0
                rw [← kc HB3.out _ _ hb2] at d0
                generalize xt.getD k elS.z = a at c0 HS HNO
                generalize yt.getD k elS.z = b at d0 HS HNO
                clear hc hd
                by_cases hab : a = b
                · have HS2 := Lib.hid (HS.out hab)
                  have hse : (a.toList == b.toList) = true := str_eq hab
                  have hsn : (a.toList != b.toList) = false := by rw [bne, hse]; rfl
                  clear hab HS HNO
                  go_wp2
                  go_quiet (fail)
                  go_wp2
                  go_roundw
                  case rel => exact ⟨k + 1, by omega, by go_num, HS2, bel_drewN HQ3.out _⟩
                  case measure => simp [intOf]; omega
                · have HF := Lib.hid (HNO.out hab)
                  have hse : (a.toList == b.toList) = false := str_neq hab
                  have hsn : (a.toList != b.toList) = true := by rw [bne, hse]; rfl
                  clear hab HS HNO
                  go_wp2
                  go_quiet (fail)
                  go_wp2
                  go_ret
                  exact ⟨ret_bool (by rw [HV.out, HNE.out (fun e => not_eqL HF.out (congrArg (fun s : DS => s.2.2.2) e))]), bel_drewN HB3.out _⟩
              · obtain rfl : k = n3 := by omega
                have HE3 := Lib.hid (of_eqL (eqL_yes elS.z ha3 (fun j hj => HEJ.out j (by rw [← hp3]; exact hj))))
                have HSS := Lib.hid (HOK.out (ds_ext (s := (xl, xa, xg, xt)) (t := (xl, ya, yg, yt)) rfl HE1.out HE2.out HE3.out))
                go_wp2
                go_roundw
                case rel => exact ⟨q + 1, by omega, by go_num, HSS, B0.out.below HR3.out B0.out.lt, C0.out.below HR3.out C0.out.lt, HB3.out⟩
                case measure => simp [intOf]; omega


end Go.Proofs.Ytegeilkpefancaa
