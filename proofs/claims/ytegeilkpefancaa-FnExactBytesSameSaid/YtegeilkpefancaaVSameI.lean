/-
  The program's slices.Equal, and its BytesSame.
-/
import Derived.Test.YtegeilkpefancaaVSame
namespace Go.Proofs.Ytegeilkpefancaa
open Go.RowKit

set_option maxHeartbeats 2000000 in
theorem eqlIArea {w : World} {hi hi2 n m c d : Nat} {A B : Option Addr} {l l2 : List EArea} (hr : RowF elArea w hi A n l) (hl : l.length = n) (hn : n ≤ maxLen) (hr2 : RowF elArea w hi2 B m l2) (hl2 : l2.length = m) (hm : m ≤ maxLen) :
    Calls Try.prog 71 #[.slice A n c, .slice B m d] w fun e w' => e = .returned (.bool (eqL l l2)) ∧ Below w.heap.size w w' := by
  obtain ⟨r, hrr⟩ : ∃ r, r = eqL l l2 := ⟨_, rfl⟩
  rw [← hrr]
  have HV := Lib.hid hrr
  have RA := Lib.hid hr
  have RB := Lib.hid hr2
  unfold maxLen at hn hm
  clear hr hr2 hrr
  by_cases hlen : n = m
  rotate_left
  · have e1 : ((n : Int) != m) = true := by simp only [bne_iff_ne, ne_eq]; omega
    have HF := Lib.hid (eqL_len (l := l) (m := l2) (by omega))
    clear hlen hl hl2
    go_enter Try.func71, Try.ntmps71
    go_wp2_with fail
    go_ret
    exact ⟨ret_bool (by rw [HV.out, HF.out]), Below.refl _ _⟩
  subst hlen
  have HL := Lib.hid hl
  have HL2 := Lib.hid hl2
  have HW := Lib.hid (Below.refl w.heap.size w)
  clear hl hl2 hm
  go_enter Try.func71, Try.ntmps71
  go_wp2_with fail
  go_loopw [13] (fun i w1 => ∃ k : Nat, k ≤ n ∧ i = .int .i64 k ∧ Hid (∀ j, j < k → l.getD j elArea.z = l2.getD j elArea.z) ∧ Below w.heap.size w w1) (fun i _ => n - (intOf i).toNat)
  case atStart => exact ⟨0, Nat.zero_le _, rfl, Lib.hid fun j hj => absurd hj (Nat.not_lt_zero j), Below.refl _ _⟩
  case round =>
    rename World => w1
    obtain ⟨k, hk, rfl, HEJ, hb⟩ := hrel
    have HQ1 := Lib.hid hb
    have HB1 := Lib.hid (HW.out.trans (hb.mono HW.out.size))
    skip
    clear hb
    by_cases hlt : k < n
    · obtain ⟨b1, o1, rfl, _, hb1, hc⟩ := RA.out (by omega)
      obtain ⟨b2, o2, rfl, _, hb2, hd⟩ := RB.out (by omega)
      have hk1 : (k : Int) < n := by omega
      have hk2 : (0 : Int) ≤ k := by omega
      have HS := Lib.hid (fun h => upto_succ elArea.z HEJ.out (k := k) h)
      have HNO := Lib.hid (fun h => eqL_no (l := l) (m := l2) elArea.z k h)
      have c0 : w.cell? ⟨b1, o1 + k * 4, none⟩ = some (.int .i64 (l.getD k elArea.z).f0) := by
        have h := hc k hlt 0 (by decide)
        rw [show o1 + k * elArea.K + 0 = o1 + k * 4 from by show o1 + k * 4 + 0 = o1 + k * 4; omega] at h
        exact h
      have c1 : w.cell? ⟨b1, o1 + k * 4 + 1, none⟩ = some (.int .i64 (l.getD k elArea.z).f1) := by
        have h := hc k hlt 1 (by decide)
        rw [show o1 + k * elArea.K + 1 = o1 + k * 4 + 1 from by show o1 + k * 4 + 1 = o1 + k * 4 + 1; omega] at h
        exact h
      have c2 : w.cell? ⟨b1, o1 + k * 4 + 2, none⟩ = some (.bool (l.getD k elArea.z).f2) := by
        have h := hc k hlt 2 (by decide)
        rw [show o1 + k * elArea.K + 2 = o1 + k * 4 + 2 from by show o1 + k * 4 + 2 = o1 + k * 4 + 2; omega] at h
        exact h
      have c3 : w.cell? ⟨b1, o1 + k * 4 + 3, none⟩ = some (.bool (l.getD k elArea.z).f3) := by
        have h := hc k hlt 3 (by decide)
        rw [show o1 + k * elArea.K + 3 = o1 + k * 4 + 3 from by show o1 + k * 4 + 3 = o1 + k * 4 + 3; omega] at h
        exact h
      have d0 : w.cell? ⟨b2, o2 + k * 4, none⟩ = some (.int .i64 (l2.getD k elArea.z).f0) := by
        have h := hd k hlt 0 (by decide)
        rw [show o2 + k * elArea.K + 0 = o2 + k * 4 from by show o2 + k * 4 + 0 = o2 + k * 4; omega] at h
        exact h
      have d1 : w.cell? ⟨b2, o2 + k * 4 + 1, none⟩ = some (.int .i64 (l2.getD k elArea.z).f1) := by
        have h := hd k hlt 1 (by decide)
        rw [show o2 + k * elArea.K + 1 = o2 + k * 4 + 1 from by show o2 + k * 4 + 1 = o2 + k * 4 + 1; omega] at h
        exact h
      have d2 : w.cell? ⟨b2, o2 + k * 4 + 2, none⟩ = some (.bool (l2.getD k elArea.z).f2) := by
        have h := hd k hlt 2 (by decide)
        rw [show o2 + k * elArea.K + 2 = o2 + k * 4 + 2 from by show o2 + k * 4 + 2 = o2 + k * 4 + 2; omega] at h
        exact h
      have d3 : w.cell? ⟨b2, o2 + k * 4 + 3, none⟩ = some (.bool (l2.getD k elArea.z).f3) := by
        have h := hd k hlt 3 (by decide)
        rw [show o2 + k * elArea.K + 3 = o2 + k * 4 + 3 from by show o2 + k * 4 + 3 = o2 + k * 4 + 3; omega] at h
        exact h
      rw [← kc HB1.out _ _ hb1] at c0 c1 c2 c3
      rw [← kc HB1.out _ _ hb2] at d0 d1 d2 d3
      generalize l.getD k elArea.z = a at c0 c1 c2 c3 HS HNO
      generalize l2.getD k elArea.z = b at d0 d1 d2 d3 HS HNO
      clear hc hd
      have hn := area_neq a b
      have hgd : ∀ (w : World) (x y : Operand), (eqGuard .neq 106 x y (.agg #[.int .i64 a.f0, .int .i64 a.f1, .bool a.f2, .bool a.f3]) (.agg #[.int .i64 b.f0, .int .i64 b.f1, .bool b.f2, .bool b.f3])).run Try.prog w = .ok () w := fun w x y => run_eqGuard_agg w _ _ _ _ _ _ area_guard
      by_cases hab : a = b
      · have HS2 := Lib.hid (HS.out hab)
        have hse : sameE a b = true := sameE_iff.2 hab
        rw [hse] at hn
        clear hab HS HNO
        go_wp2
        go_quiet (fail)
        go_wp2
        go_roundw
        case rel => exact ⟨k + 1, by omega, by go_num, HS2, bel_drewN HQ1.out _⟩
        case measure => simp [intOf]; omega
      · have HF := Lib.hid (HNO.out hab)
        have hse : sameE a b = false := by
          cases h : sameE a b
          · rfl
          · exact absurd (sameE_iff.1 h) hab
        rw [hse] at hn
        clear hab HS HNO
        go_wp2
        go_quiet (fail)
        go_wp2
        go_ret
        exact ⟨ret_bool (by rw [HV.out, HF.out]), bel_drewN HB1.out _⟩
    · obtain rfl : k = n := by omega
      have HT := Lib.hid (eqL_yes elArea.z (HL.out.trans HL2.out.symm) (fun j hj => HEJ.out j (by rw [← HL.out]; exact hj)))
      go_wp2
      go_ret
      exact ⟨ret_bool (by rw [HV.out, HT.out]), HB1.out⟩
set_option maxHeartbeats 2000000 in
theorem eqlIInt {w : World} {hi hi2 n m c d : Nat} {A B : Option Addr} {l l2 : List Int} (hr : RowF elI w hi A n l) (hl : l.length = n) (hn : n ≤ maxLen) (hr2 : RowF elI w hi2 B m l2) (hl2 : l2.length = m) (hm : m ≤ maxLen) :
    Calls Try.prog 72 #[.slice A n c, .slice B m d] w fun e w' => e = .returned (.bool (eqL l l2)) ∧ Below w.heap.size w w' := by
  obtain ⟨r, hrr⟩ : ∃ r, r = eqL l l2 := ⟨_, rfl⟩
  rw [← hrr]
  have HV := Lib.hid hrr
  have RA := Lib.hid hr
  have RB := Lib.hid hr2
  unfold maxLen at hn hm
  clear hr hr2 hrr
  by_cases hlen : n = m
  rotate_left
  · have e1 : ((n : Int) != m) = true := by simp only [bne_iff_ne, ne_eq]; omega
    have HF := Lib.hid (eqL_len (l := l) (m := l2) (by omega))
    clear hlen hl hl2
    go_enter Try.func72, Try.ntmps72
    go_wp2_with fail
    go_ret
    exact ⟨ret_bool (by rw [HV.out, HF.out]), Below.refl _ _⟩
  subst hlen
  have HL := Lib.hid hl
  have HL2 := Lib.hid hl2
  have HW := Lib.hid (Below.refl w.heap.size w)
  clear hl hl2 hm
  go_enter Try.func72, Try.ntmps72
  go_wp2_with fail
  go_loopw [13] (fun i w1 => ∃ k : Nat, k ≤ n ∧ i = .int .i64 k ∧ Hid (∀ j, j < k → l.getD j elI.z = l2.getD j elI.z) ∧ Below w.heap.size w w1) (fun i _ => n - (intOf i).toNat)
  case atStart => exact ⟨0, Nat.zero_le _, rfl, Lib.hid fun j hj => absurd hj (Nat.not_lt_zero j), Below.refl _ _⟩
  case round =>
    rename World => w1
    obtain ⟨k, hk, rfl, HEJ, hb⟩ := hrel
    have HQ1 := Lib.hid hb
    have HB1 := Lib.hid (HW.out.trans (hb.mono HW.out.size))
    skip
    clear hb
    by_cases hlt : k < n
    · obtain ⟨b1, o1, rfl, _, hb1, hc⟩ := RA.out (by omega)
      obtain ⟨b2, o2, rfl, _, hb2, hd⟩ := RB.out (by omega)
      have hk1 : (k : Int) < n := by omega
      have hk2 : (0 : Int) ≤ k := by omega
      have HS := Lib.hid (fun h => upto_succ elI.z HEJ.out (k := k) h)
      have HNO := Lib.hid (fun h => eqL_no (l := l) (m := l2) elI.z k h)
      have c0 : w.cell? ⟨b1, o1 + k, none⟩ = some (.int .i64 (l.getD k elI.z)) := by
        have h := hc k hlt 0 (by decide)
        rw [show o1 + k * elI.K + 0 = o1 + k from by show o1 + k * 1 + 0 = o1 + k; omega] at h
        exact h
      have d0 : w.cell? ⟨b2, o2 + k, none⟩ = some (.int .i64 (l2.getD k elI.z)) := by
        have h := hd k hlt 0 (by decide)
        rw [show o2 + k * elI.K + 0 = o2 + k from by show o2 + k * 1 + 0 = o2 + k; omega] at h
        exact h
      rw [← kc HB1.out _ _ hb1] at c0
      rw [← kc HB1.out _ _ hb2] at d0
      generalize l.getD k elI.z = a at c0 HS HNO
      generalize l2.getD k elI.z = b at d0 HS HNO
      clear hc hd
      by_cases hab : a = b
      · have HS2 := Lib.hid (HS.out hab)
        have hse : (a == b) = true := by simpa using hab
        have hsn : (a != b) = false := by simpa using hab
        clear hab HS HNO
        go_wp2
        go_quiet (fail)
        go_wp2
        go_roundw
        case rel => exact ⟨k + 1, by omega, by go_num, HS2, bel_drewN HQ1.out _⟩
        case measure => simp [intOf]; omega
      · have HF := Lib.hid (HNO.out hab)
        have hse : (a == b) = false := by simpa using hab
        have hsn : (a != b) = true := by simpa using hab
        clear hab HS HNO
        go_wp2
        go_quiet (fail)
        go_wp2
        go_ret
        exact ⟨ret_bool (by rw [HV.out, HF.out]), bel_drewN HB1.out _⟩
    · obtain rfl : k = n := by omega
      have HT := Lib.hid (eqL_yes elI.z (HL.out.trans HL2.out.symm) (fun j hj => HEJ.out j (by rw [← HL.out]; exact hj)))
      go_wp2
      go_ret
      exact ⟨ret_bool (by rw [HV.out, HT.out]), HB1.out⟩
set_option maxHeartbeats 2000000 in
theorem eqlIString {w : World} {hi hi2 n m c d : Nat} {A B : Option Addr} {l l2 : List ByteArray} (hr : RowF elS w hi A n l) (hl : l.length = n) (hn : n ≤ maxLen) (hr2 : RowF elS w hi2 B m l2) (hl2 : l2.length = m) (hm : m ≤ maxLen) :
    Calls Try.prog 73 #[.slice A n c, .slice B m d] w fun e w' => e = .returned (.bool (eqL l l2)) ∧ Below w.heap.size w w' := by
  obtain ⟨r, hrr⟩ : ∃ r, r = eqL l l2 := ⟨_, rfl⟩
  rw [← hrr]
  have HV := Lib.hid hrr
  have RA := Lib.hid hr
  have RB := Lib.hid hr2
  unfold maxLen at hn hm
  clear hr hr2 hrr
  by_cases hlen : n = m
  rotate_left
  · have e1 : ((n : Int) != m) = true := by simp only [bne_iff_ne, ne_eq]; omega
    have HF := Lib.hid (eqL_len (l := l) (m := l2) (by omega))
    clear hlen hl hl2
    go_enter Try.func73, Try.ntmps73
    go_wp2_with fail
    go_ret
    exact ⟨ret_bool (by rw [HV.out, HF.out]), Below.refl _ _⟩
  subst hlen
  have HL := Lib.hid hl
  have HL2 := Lib.hid hl2
  have HW := Lib.hid (Below.refl w.heap.size w)
  clear hl hl2 hm
  go_enter Try.func73, Try.ntmps73
  go_wp2_with fail
  go_loopw [13] (fun i w1 => ∃ k : Nat, k ≤ n ∧ i = .int .i64 k ∧ Hid (∀ j, j < k → l.getD j elS.z = l2.getD j elS.z) ∧ Below w.heap.size w w1) (fun i _ => n - (intOf i).toNat)
  case atStart => exact ⟨0, Nat.zero_le _, rfl, Lib.hid fun j hj => absurd hj (Nat.not_lt_zero j), Below.refl _ _⟩
  case round =>
    rename World => w1
    obtain ⟨k, hk, rfl, HEJ, hb⟩ := hrel
    have HQ1 := Lib.hid hb
    have HB1 := Lib.hid (HW.out.trans (hb.mono HW.out.size))
    skip
    clear hb
    by_cases hlt : k < n
    · obtain ⟨b1, o1, rfl, _, hb1, hc⟩ := RA.out (by omega)
      obtain ⟨b2, o2, rfl, _, hb2, hd⟩ := RB.out (by omega)
      have hk1 : (k : Int) < n := by omega
      have hk2 : (0 : Int) ≤ k := by omega
      have HS := Lib.hid (fun h => upto_succ elS.z HEJ.out (k := k) h)
      have HNO := Lib.hid (fun h => eqL_no (l := l) (m := l2) elS.z k h)
      have c0 : w.cell? ⟨b1, o1 + k, none⟩ = some (.string (l.getD k elS.z)) := by
        have h := hc k hlt 0 (by decide)
        rw [show o1 + k * elS.K + 0 = o1 + k from by show o1 + k * 1 + 0 = o1 + k; omega] at h
        exact h
      have d0 : w.cell? ⟨b2, o2 + k, none⟩ = some (.string (l2.getD k elS.z)) := by
        have h := hd k hlt 0 (by decide)
        rw [show o2 + k * elS.K + 0 = o2 + k from by show o2 + k * 1 + 0 = o2 + k; omega] at h
        exact h
      rw [← kc HB1.out _ _ hb1] at c0
      rw [← kc HB1.out _ _ hb2] at d0
      generalize l.getD k elS.z = a at c0 HS HNO
      generalize l2.getD k elS.z = b at d0 HS HNO
      clear hc hd
      by_cases hab : a = b
      · have HS2 := Lib.hid (HS.out hab)
        have hse : (a.toList == b.toList) = true := str_eq hab
        have hsn : (a.toList != b.toList) = false := by rw [bne, hse]; rfl
        clear hab HS HNO
        go_wp2
        go_quiet (fail)
        go_wp2
        go_roundw
        case rel => exact ⟨k + 1, by omega, by go_num, HS2, bel_drewN HQ1.out _⟩
        case measure => simp [intOf]; omega
      · have HF := Lib.hid (HNO.out hab)
        have hse : (a.toList == b.toList) = false := str_neq hab
        have hsn : (a.toList != b.toList) = true := by rw [bne, hse]; rfl
        clear hab HS HNO
        go_wp2
        go_quiet (fail)
        go_wp2
        go_ret
        exact ⟨ret_bool (by rw [HV.out, HF.out]), bel_drewN HB1.out _⟩
    · obtain rfl : k = n := by omega
      have HT := Lib.hid (eqL_yes elS.z (HL.out.trans HL2.out.symm) (fun j hj => HEJ.out j (by rw [← HL.out]; exact hj)))
      go_wp2
      go_ret
      exact ⟨ret_bool (by rw [HV.out, HT.out]), HB1.out⟩

noncomputable def eqD (s t : DS) : Bool := (s.1 == t.1) && (eqL s.2.1 t.2.1 && (eqL s.2.2.1 t.2.2.1 && eqL s.2.2.2 t.2.2.2))
theorem eqD_iff {s t : DS} : eqD s t = true ↔ s = t := by
  constructor
  · intro h
    unfold eqD at h
    obtain ⟨h0, h⟩ := Bool.and_eq_true_iff.1 h
    obtain ⟨h1, h⟩ := Bool.and_eq_true_iff.1 h
    obtain ⟨h2, h3⟩ := Bool.and_eq_true_iff.1 h
    exact ds_ext (by simpa using h0) (of_eqL h1) (of_eqL h2) (of_eqL h3)
  · rintro rfl
    unfold eqD
    rw [eqL_true rfl, eqL_true rfl, eqL_true rfl]
    simp
set_option maxHeartbeats 2000000 in
theorem same1I {w : World} {hi hi2 : Nat} {s t : DS} {A1 A2 A3 B1 B2 B3 : Option Addr} {n1 n2 n3 c1 c2 c3 m1 m2 m3 d1 d2 d3 : Nat}
    (r1 : RowF elArea w hi A1 n1 s.2.1) (p1 : s.2.1.length = n1) (k1 : n1 ≤ maxLen) (r2 : RowF elI w hi A2 n2 s.2.2.1) (p2 : s.2.2.1.length = n2) (k2 : n2 ≤ maxLen) (r3 : RowF elS w hi A3 n3 s.2.2.2) (p3 : s.2.2.2.length = n3) (k3 : n3 ≤ maxLen)
    (s1 : RowF elArea w hi2 B1 m1 t.2.1) (q1 : t.2.1.length = m1) (j1 : m1 ≤ maxLen) (s2 : RowF elI w hi2 B2 m2 t.2.2.1) (q2 : t.2.2.1.length = m2) (j2 : m2 ≤ maxLen) (s3 : RowF elS w hi2 B3 m3 t.2.2.2) (q3 : t.2.2.2.length = m3) (j3 : m3 ≤ maxLen) :
    Calls Try.prog 70 #[.agg #[.bool s.1, .slice A1 n1 c1, .slice A2 n2 c2, .slice A3 n3 c3], .agg #[.bool t.1, .slice B1 m1 d1, .slice B2 m2 d2, .slice B3 m3 d3]] w fun e w' => e = .returned (.bool (eqD s t)) ∧ Below w.heap.size w w' := by
  obtain ⟨r, hrr⟩ : ∃ r, r = eqD s t := ⟨_, rfl⟩
  rw [← hrr]
  have HV := Lib.hid (show r = ((s.1 == t.1) && (eqL s.2.1 t.2.1 && (eqL s.2.2.1 t.2.2.1 && eqL s.2.2.2 t.2.2.2))) from hrr)
  have R1 := Lib.hid r1
  have R2 := Lib.hid r2
  have R3 := Lib.hid r3
  have S1 := Lib.hid s1
  have S2 := Lib.hid s2
  have S3 := Lib.hid s3
  have P1 := Lib.hid p1
  have P2 := Lib.hid p2
  have P3 := Lib.hid p3
  have Q1 := Lib.hid q1
  have Q2 := Lib.hid q2
  have Q3 := Lib.hid q3
  have K1 := Lib.hid k1
  have K2 := Lib.hid k2
  have K3 := Lib.hid k3
  have J1 := Lib.hid j1
  have J2 := Lib.hid j2
  have J3 := Lib.hid j3
  clear hrr r1 r2 r3 s1 s2 s3 p1 p2 p3 q1 q2 q3 k1 k2 k3 j1 j2 j3
  obtain ⟨xl, xa, xg, xt⟩ := s
  obtain ⟨yl, ya, yg, yt⟩ := t
  dsimp only at *
  have X0 := Lib.hid ((Box.new w #[.bool xl, .slice A1 n1 c1, .slice A2 n2 c2, .slice A3 n3 c3] 112).alloc (.cells #[.bool yl, .slice B1 m1 d1, .slice B2 m2 d2, .slice B3 m3 d3] 112))
  have Y0 := Lib.hid (Box.new (w.alloc (.cells #[.bool xl, .slice A1 n1 c1, .slice A2 n2 c2, .slice A3 n3 c3] 112)) #[.bool yl, .slice B1 m1 d1, .slice B2 m2 d2, .slice B3 m3 d3] 112)
  simp only [World.size_alloc] at Y0
  have HW := Lib.hid (show Below w.heap.size w ((w.alloc (.cells #[.bool xl, .slice A1 n1 c1, .slice A2 n2 c2, .slice A3 n3 c3] 112)).alloc (.cells #[.bool yl, .slice B1 m1 d1, .slice B2 m2 d2, .slice B3 m3 d3] 112)) from ((Below.refl _ _).alloc (Nat.le_refl _) _).alloc (by simp only [World.size_alloc]; omega) _)
  by_cases hll : xl = yl
  rotate_left
  · have HF := Lib.hid (show (xl == yl) = false by simpa using hll)
    cases xl <;> cases yl
    · exact absurd rfl hll
    · clear hll
      go_enter Try.func70, Try.ntmps70
      go_wp2_with fail
      go_ret
      exact ⟨ret_bool (by rw [HV.out]; rfl), HW.out⟩
    · clear hll
      go_enter Try.func70, Try.ntmps70
      go_wp2_with fail
      go_ret
      exact ⟨ret_bool (by rw [HV.out]; rfl), HW.out⟩
    · exact absurd rfl hll
  subst hll
  have HT := Lib.hid (show (xl == xl) = true by simp)
  go_enter Try.func70, Try.ntmps70
  go_wp2_with fail
  refine (eqlIArea (c := c1) (d := d1) (R1.out.wb HW.out) P1.out K1.out (S1.out.wb HW.out) Q1.out J1.out).mono ?_
  rintro e w1 ⟨rfl, hb1⟩
  have HW1 := Lib.hid (HW.out.trans (hb1.mono HW.out.size))
  have X1 := Lib.hid (X0.out.below hb1 X0.out.lt)
  have Y1 := Lib.hid (Y0.out.below hb1 Y0.out.lt)
  clear hb1
  generalize hz : eqL xa ya = z at *
  have HZ := Lib.hid hz
  clear hz
  have x2 := X1.out.cell 2
  have y2 := Y1.out.cell 2
  have xl1 := X1.out.lt
  have yl1 := Y1.out.lt
  simp at x2 y2
  cases z
  · go_wp2_with fail
    go_ret
    exact ⟨ret_bool (by rw [HV.out, HT.out]; rfl), HW1.out⟩
  go_wp2_with fail
  refine (eqlIInt (c := c2) (d := d2) (R2.out.wb HW1.out) P2.out K2.out (S2.out.wb HW1.out) Q2.out J2.out).mono ?_
  rintro e w2 ⟨rfl, hb2⟩
  have HW2 := Lib.hid (HW1.out.trans (hb2.mono HW1.out.size))
  have X2 := Lib.hid (X1.out.below hb2 X1.out.lt)
  have Y2 := Lib.hid (Y1.out.below hb2 Y1.out.lt)
  clear hb2 x2 y2 xl1 yl1
  generalize hz2 : eqL xg yg = z2 at *
  have HZ2 := Lib.hid hz2
  clear hz2
  have x3 := X2.out.cell 3
  have y3 := Y2.out.cell 3
  have xl2 := X2.out.lt
  have yl2 := Y2.out.lt
  simp at x3 y3
  cases z2
  · go_wp2_with fail
    go_ret
    exact ⟨ret_bool (by rw [HV.out, HT.out]; rfl), HW2.out⟩
  go_wp2_with fail
  refine (eqlIString (c := c3) (d := d3) (R3.out.wb HW2.out) P3.out K3.out (S3.out.wb HW2.out) Q3.out J3.out).mono ?_
  rintro e w3 ⟨rfl, hb3⟩
  have HW3 := Lib.hid (HW2.out.trans (hb3.mono HW2.out.size))
  clear hb3 x3 y3 xl2 yl2
  go_wp2_with fail
  go_ret
  exact ⟨ret_bool (by rw [HV.out, HT.out]; simp), HW3.out⟩
set_option maxHeartbeats 4000000 in
theorem eqFuncI {w : World} {hi hi2 : Nat} {x0 y0 : Value} {D E : DV} (hD : tyViews.R w hi [x0] D) (hE : tyViews.R w hi2 [y0] E) :
    Calls Try.prog 69 #[x0, y0, .func (.func 70) #[] #[]] w fun e w' => e = .returned (.bool (eqL D E)) ∧ Below w.heap.size w w' := by
  have HD := Lib.hid hD
  have HE := Lib.hid hE
  obtain ⟨A, c, rfl, hL⟩ := lenV hD
  obtain ⟨B, d, rfl, hL2⟩ := lenV hE
  obtain ⟨r, hr⟩ : ∃ r, r = eqL D E := ⟨_, rfl⟩
  rw [← hr]
  have HV := Lib.hid hr
  unfold maxLen at hL hL2
  clear hD hE hr
  by_cases hlen : D.length = E.length
  rotate_left
  · have e1 : ((D.length : Int) != E.length) = true := by simp only [bne_iff_ne, ne_eq]; omega
    have HF := Lib.hid (eqL_len hlen)
    clear hlen
    go_enter Try.func69, Try.ntmps69
    go_wp2_with fail
    go_ret
    exact ⟨ret_bool (by rw [HV.out, HF.out]), Below.refl _ _⟩
  have HLE := Lib.hid hlen
  rw [← hlen]
  have e1 : ((D.length : Int) != D.length) = false := by simp
  generalize hNN : D.length = N at *
  have HNN := Lib.hid hNN
  clear hlen hNN hL2
  go_enter Try.func69, Try.ntmps69
  go_wp2_with fail
  go_loopw [17] (fun i wr => ∃ k : Nat, k ≤ N ∧ i = .int .i64 k ∧ Hid (∀ j, j < k → D.getD j zS = E.getD j zS) ∧ Below w.heap.size w wr) (fun i _ => N - (intOf i).toNat)
  case atStart => exact ⟨0, Nat.zero_le _, rfl, Lib.hid fun j hj => absurd hj (Nat.not_lt_zero j), Below.refl _ _⟩
  case round =>
    rename World => w0
    obtain ⟨q, hq, rfl, HQS, hb⟩ := hrel
    have HW := Lib.hid hb
    clear hb
    by_cases hlq : q < N
    rotate_left
    · obtain rfl : q = N := by omega
      have HT := Lib.hid (eqL_yes zS (HNN.out.trans HLE.out) (fun j hj => HQS.out j (by rw [← HNN.out]; exact hj)))
      go_wp2_with fail
      go_ret
      exact ⟨ret_bool (by rw [HV.out, HT.out]), HW.out⟩
    obtain ⟨bx, ox, cx, A1, n1, c1, A2, n2, c2, A3, n3, c3, hSX⟩ := spAt HD.out (show q < D.length by rw [HNN.out]; exact hlq)
    obtain ⟨by', oy, cy, B1, m1, d1, B2, m2, d2, B3, m3, d3, hSY⟩ := spAt HE.out (show q < E.length by rw [← HLE.out]; exact hlq)
    have hxx := hSX.x
    have hyy := hSY.x
    simp only [Value.slice.injEq] at hxx hyy
    obtain ⟨rfl, -, rfl⟩ := hxx
    obtain ⟨rfl, -, rfl⟩ := hyy
    have SX := Lib.hid hSX
    have SY := Lib.hid hSY
    have hbx := hSX.lt
    have hby := hSY.lt
    clear hSX hSY
    have HNE := Lib.hid (fun (h : ¬ D.getD q zS = E.getD q zS) => eqL_no zS q h)
    have HOK := Lib.hid (fun (h : D.getD q zS = E.getD q zS) => upto_succ zS HQS.out h)
    have p0 := (kc HW.out _ _ hbx).trans SX.out.q0
    have p1 := (kc HW.out _ _ hbx).trans SX.out.q1
    have p2 := (kc HW.out _ _ hbx).trans SX.out.q2
    have p3 := (kc HW.out _ _ hbx).trans SX.out.q3
    have q0 := (kc HW.out _ _ hby).trans SY.out.q0
    have q1 := (kc HW.out _ _ hby).trans SY.out.q1
    have q2 := (kc HW.out _ _ hby).trans SY.out.q2
    have q3 := (kc HW.out _ _ hby).trans SY.out.q3
    have hsx : bx < w0.heap.size := Nat.lt_of_lt_of_le hbx HW.out.size
    have hsy : by' < w0.heap.size := Nat.lt_of_lt_of_le hby HW.out.size
    have hq1 : (q : Int) < N := by omega
    have hq2 : (0 : Int) ≤ q := by omega
    clear HQS
    have HC := Lib.hid (fun (w9 : World) (h : Below w.heap.size w w9) => same1I (w := w9) (s := D.getD q zS) (t := E.getD q zS) (c1 := c1) (c2 := c2) (c3 := c3) (d1 := d1) (d2 := d2) (d3 := d3) (SX.out.r1.wb h) SX.out.p1 SX.out.m1 (SX.out.r2.wb h) SX.out.p2 SX.out.m2 (SX.out.r3.wb h) SX.out.p3 SX.out.m3 (SY.out.r1.wb h) SY.out.p1 SY.out.m1 (SY.out.r2.wb h) SY.out.p2 SY.out.m2 (SY.out.r3.wb h) SY.out.p3 SY.out.m3)
    clear SX SY
    generalize D.getD q zS = S at *
    generalize E.getD q zS = T at *
    have HD2 := Lib.hid (show eqD S T = true ↔ S = T from eqD_iff)
    generalize eqD S T = z at *
    have HWA := Lib.hid (show Below w.heap.size w ((w0.alloc (.cells #[.bool S.1, .slice A1 n1 c1, .slice A2 n2 c2, .slice A3 n3 c3] 112)).alloc (.cells #[.bool T.1, .slice B1 m1 d1, .slice B2 m2 d2, .slice B3 m3 d3] 112)) from (HW.out.alloc HW.out.size _).alloc (by have := HW.out.size; simp only [World.size_alloc]; omega) _)
    go_wp2_with (go_at_call 70; refine (HC.out _ HWA.out).mono ?_; rintro e w2 ⟨rfl, hb2⟩; have HW2 := Lib.hid (HWA.out.trans (hb2.mono HWA.out.size)); clear hb2 p0 p1 p2 p3 q0 q1 q2 q3; cases z)
    · go_ret
      exact ⟨ret_bool (by rw [HV.out, HNE.out (fun e => Bool.false_ne_true (HD2.out.2 e))]), HW2.out⟩
    · exact ⟨⟨q + 1, by omega, by go_num, Lib.hid (HOK.out (HD2.out.1 trivial)), HW2.out⟩, by simp [intOf]; omega⟩
theorem bytesSameI : BSame 30 := by
  intro w hi hi2 x0 y0 D E hD hE
  have HD := Lib.hid hD
  have HE := Lib.hid hE
  clear hD hE
  have HW := Lib.hid (show Below w.heap.size w ((w.alloc (.cells #[x0] 52)).alloc (.cells #[y0] 52)) from ((Below.refl _ _).alloc (Nat.le_refl _) _).alloc (by simp only [World.size_alloc]; omega) _)
  obtain ⟨A, c, rfl, hL⟩ := lenV HD.out
  obtain ⟨B, d, rfl, hL2⟩ := lenV HE.out
  clear hL hL2
  go_enter Try.func30, Try.ntmps30
  go_wp2_with fail
  refine (eqFuncI (Ty.below_w HD.out HW.out) (Ty.below_w HE.out HW.out)).mono ?_
  rintro e w1 ⟨rfl, hb⟩
  have HW1 := Lib.hid (HW.out.trans (hb.mono HW.out.size))
  clear hb
  go_wp2_with fail
  go_ret
  exact ⟨rfl, HW1.out⟩
end Go.Proofs.Ytegeilkpefancaa
