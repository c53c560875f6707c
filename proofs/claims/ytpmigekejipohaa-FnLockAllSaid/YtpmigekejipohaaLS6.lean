/-
  The model's LockIn and LockStep.
-/
import Derived.Test.YtpmigekejipohaaLS1
import Derived.Test.YtpmigekejipohaaLS3
import Derived.Test.YtpmigekejipohaaLS5
namespace Go.Proofs.Ytpmigekejipohaa
open Go.RowKit

theorem LM.cell {base : Nat} {w : World} {D : Lk} {g0 g1 c1 : Nat} (h : LM base w D g0 g1 c1) {X : Nat} (hx : X < base) (i : Nat) (v : Value) : LM base (w.setCell ⟨X, i, none⟩ v) D g0 g1 c1 :=
  ⟨rowM_offT h.row ⟨X, i, none⟩ v (by have := h.lo; show g0 ≠ X; omega), h.line.other ⟨X, i, none⟩ v (by have := (OwnE.lt h.line).1; show g1 ≠ X; omega), h.lo, h.ne⟩
/-- an answer out of a lock of the call's own -/
theorem LM.km {base : Nat} {w w' : World} {D : Lk} {g0 g1 c0 c1 : Nat} (h : LM base w' D g0 g1 c1) (hb : w.heap.size ≤ base) (hn : 0 < D.2.1.length) (hs : smallLock D) (hbl : Below w.heap.size w w') :
    KM w D (.int .i64 D.1) (.slice (some ⟨g0, 0, none⟩) D.2.1.length c0) (.slice (some ⟨g1, 0, none⟩) D.2.2.length c1) [g0, g1] w' := by
  have h0 := ltM h.row hn
  have h1 := OwnE.lt h.line
  have h2 := h.lo
  have h3 := h.ne
  refine ⟨tyLock_Mmk (f1 := [g0]) (f2 := [g1]) ⟨rfl, hs.1, h.row⟩ ⟨rfl, ⟨hs.2, OwnE.cap h.line⟩, OwnE.row h.line rfl⟩ (fun b hb1 hb2 => ?_), fun b hb1 => ?_, hs, hbl⟩
  · rw [List.mem_singleton] at hb1 hb2
    omega
  · rcases List.mem_cons.1 hb1 with rfl | hb1
    · omega
    · rw [List.mem_singleton] at hb1
      omega
theorem KM.zero {w w' : World} (h : Below w.heap.size w w') : KM w lkZ (.int .i64 0) (.slice none 0 0) (.slice none 0 0) [] w' :=
  ⟨tyLock_Mmk (D := lkZ) (f1 := []) (f2 := []) ⟨rfl, by decide, fun h => absurd h (Nat.lt_irrefl 0)⟩ ⟨rfl, by decide, fun h => absurd h (Nat.lt_irrefl 0)⟩ (fun _ h => absurd h List.not_mem_nil), fun _ h => absurd h List.not_mem_nil, ⟨by decide, by decide⟩, h⟩
theorem line_le {D : Lk} (h : lkB D = true) : D.2.2.length ≤ D.2.1.length := by
  unfold lkB at h
  simp only [Bool.and_eq_true, decide_eq_true_eq] at h
  have := slp_le D D.2.1.length
  omega
theorem small_ok {D : Lk} (h : LOk D) : smallLock D ∧ D.2.1.length ≤ 4 ∧ D.2.2.length ≤ 4 ∧ 0 < D.2.1.length := by
  have h1 := h.n
  have h2 := line_le (lk_iff.2 h)
  exact ⟨⟨by omega, by omega⟩, by omega, by omega, by omega⟩
theorem bel3 {w w' : World} (h : Below w.heap.size w w') {X : Nat} (hx : w.heap.size ≤ X) (a b c : Value) : Below w.heap.size w (((w'.setCell ⟨X, 0, none⟩ a).setCell ⟨X, 1, none⟩ b).setCell ⟨X, 2, none⟩ c) :=
  ((h.setCell (p := ⟨X, 0, none⟩) hx a).setCell (p := ⟨X, 1, none⟩) hx b).setCell (p := ⟨X, 2, none⟩) hx c
section
variable {w : World}
theorem lockIn_any : KIn 35 := by
  intro w hi x0 x1 x2 D h
  have HR0 := Lib.hid h
  obtain ⟨A, n, c, A2, n2, c2, hcs, _, _⟩ := tyLock_R h
  simp only [List.cons.injEq, and_true] at hcs
  obtain ⟨rfl, rfl, rfl⟩ := hcs
  obtain ⟨W, hW⟩ : ∃ W, D.1 = W := ⟨_, rfl⟩
  rw [hW] at HR0 ⊢
  have X1 := Lib.hid (Box.new w #[.int .i64 W, .slice A n c, .slice A2 n2 c2] 28)
  have HB1 := Lib.hid (show Below w.heap.size w (w.alloc (.cells #[.int .i64 W, .slice A n c, .slice A2 n2 c2] 28)) from (Below.refl _ _).alloc (Nat.le_refl _) _)
  have HT1 := Lib.hid (Ty.below_w HR0.out HB1.out)
  clear h hW
  obtain ⟨r, hr⟩ : ∃ r, inD D = r := ⟨_, rfl⟩
  rw [hr]
  have HRR := Lib.hid hr
  obtain ⟨a, ha⟩ : ∃ a, lkB D = a := ⟨_, rfl⟩
  have HA := Lib.hid ha
  clear hr ha
  go_enter Try.func35, Try.ntmps35
  go_wp2_with fail
  generalize w.alloc (.cells #[.int .i64 W, .slice A n c, .slice A2 n2 c2] 28) = W0 at X1 HB1 HT1 ⊢
  refine (lockOk_any HT1.out).mono ?_
  rw [HA.out]
  rintro e w1 ⟨rfl, hb1⟩
  have HB2 := Lib.hid (HB1.out.trans (hb1.mono HB1.out.size))
  have X2 := Lib.hid (X1.out.below hb1 X1.out.lt)
  have HT2 := Lib.hid (Ty.below_w HT1.out hb1)
  clear hb1 X1 HT1 HB1
  have p0 := X2.out.cell 0
  have p1 := X2.out.cell 1
  have p2 := X2.out.cell 2
  have pl := X2.out.lt
  simp at p0 p1 p2
  cases a
  · obtain rfl : r = -1 := by rw [← HRR.out]; unfold inD; rw [HA.out]; rfl
    go_wp2_with fail
    go_ret
    exact ⟨rfl, HB2.out⟩
  · have HR := Lib.hid (show inTo D D.2.1.length = r from by rw [← HRR.out]; unfold inD; rw [HA.out]; rfl)
    go_wp2_with fail
    refine (l12In_any HT2.out).mono ?_
    rw [HR.out]
    rintro e w3 ⟨rfl, hb1⟩
    have HB3 := Lib.hid (HB2.out.trans (hb1.mono HB2.out.size))
    clear hb1
    go_wp2_with fail
    go_ret
    exact ⟨rfl, HB3.out⟩
/-- what LockStep answers -/
def StpR (w : World) (ok : Bool) (D' : Lk) (e : Ending) (w' : World) : Prop :=
  ∃ y0 y1 y2 fp, e = .returned (.tuple #[.agg #[y0, y1, y2], .bool ok]) ∧ KM w D' y0 y1 y2 fp w'
set_option maxHeartbeats 4000000 in
theorem lockStep_any : KStp 31 := by
  intro w hi x0 x1 x2 D x h hs
  have HR0 := Lib.hid h
  obtain ⟨A, n, c, A2, n2, c2, hcs, ⟨hl, hl1, hl2⟩, hl3⟩ := tyLock_R h
  simp only [List.cons.injEq, and_true] at hcs
  obtain ⟨rfl, rfl, rfl⟩ := hcs
  clear hl1 hl2 hl3
  have HSM := Lib.hid hs
  have HL := Lib.hid hl
  obtain ⟨W, hW⟩ : ∃ W, D.1 = W := ⟨_, rfl⟩
  have HW := Lib.hid hW
  rw [hW] at HR0 ⊢
  have X1 := Lib.hid ((Box.new w #[.int .i64 W, .slice A n c, .slice A2 n2 c2] 28).alloc (.cells #[.int .i64 0, .slice none 0 0, .slice none 0 0] 28))
  have Z1 := Lib.hid (Box.new (w.alloc (.cells #[.int .i64 W, .slice A n c, .slice A2 n2 c2] 28)) #[.int .i64 0, .slice none 0 0, .slice none 0 0] 28)
  simp only [World.size_alloc] at Z1
  have HB1 := Lib.hid (show Below w.heap.size w ((w.alloc (.cells #[.int .i64 W, .slice A n c, .slice A2 n2 c2] 28)).alloc (.cells #[.int .i64 0, .slice none 0 0, .slice none 0 0] 28)) from ((Below.refl _ _).alloc (Nat.le_refl _) _).alloc (by simp only [World.size_alloc]; omega) _)
  have HT1 := Lib.hid (Ty.below_w HR0.out HB1.out)
  obtain ⟨D', hD'⟩ : ∃ D', stpL D x = D' := ⟨_, rfl⟩
  obtain ⟨ok, hok⟩ : ∃ ok, stpB D x = ok := ⟨_, rfl⟩
  rw [hD', hok]
  suffices hsuf : Calls Try.prog 31 #[.agg #[.int .i64 W, .slice A n c, .slice A2 n2 c2], .int .i64 x] w (StpR w ok D') from hsuf
  have HD := Lib.hid hD'
  have HOK := Lib.hid hok
  clear h hl hs hW hD' hok
  obtain ⟨a, ha⟩ : ∃ a, lkB D = a := ⟨_, rfl⟩
  have HA := Lib.hid ha
  clear ha
  cases a
  · obtain rfl : ok = false := by rw [← HOK.out]; unfold stpB; rw [HA.out]; rfl
    obtain rfl : D' = lkZ := by rw [← HD.out]; exact if_neg (by rw [HA.out]; rintro ⟨h, _⟩; cases h)
    go_enter Try.func31, Try.ntmps31
    go_wp2_with fail
    generalize ((w.alloc (.cells #[.int .i64 W, .slice A n c, .slice A2 n2 c2] 28)).alloc (.cells #[.int .i64 0, .slice none 0 0, .slice none 0 0] 28)) = W0 at X1 Z1 HB1 HT1 ⊢
    refine (lockOk_any HT1.out).mono ?_
    rw [HA.out]
    rintro e w1 ⟨rfl, hb1⟩
    have HB2 := Lib.hid (HB1.out.trans (hb1.mono HB1.out.size))
    have Z2 := Lib.hid (Z1.out.below hb1 Z1.out.lt)
    clear hb1 X1 Z1 HT1 HB1
    have z0 := Z2.out.cell 0
    have z1 := Z2.out.cell 1
    have z2 := Z2.out.cell 2
    have y0 := Z2.out.frz 0
    have y1 := Z2.out.frz 1
    have y2 := Z2.out.frz 2
    have zl := Z2.out.lt
    simp at z0 z1 z2
    go_wp2_with fail
    refine bodyPost_ret (v := .tuple #[.agg #[.int .i64 0, .slice none 0 0, .slice none 0 0], .bool false]) (by simp [results, Try.results31, go_sem, z0, z1, z2]) rfl ⟨_, _, _, [], rfl, KM.zero (bel3 HB2.out (by omega) _ _ _)⟩
  have HLO := Lib.hid (lk_iff.1 HA.out)
  have hn4 : n ≤ 4 := by have := HLO.out.n; rw [HL.out] at this; omega
  have hn1 : 1 ≤ n := by have := HLO.out.n; rw [HL.out] at this; omega
  have hw1 : IntKind.i64.wrap ((n : Int) - 1) = (n : Int) - 1 := IntWalk.i64_in _ (by omega)
  obtain ⟨m, hm⟩ : ∃ m, inB x 0 ((n : Int) - 1) = m := ⟨_, rfl⟩
  have HM := Lib.hid (show mayL D x = m from by unfold mayL; rw [HL.out]; exact hm)
  have HMB := Lib.hid hm
  clear hm
  cases m
  · obtain rfl : ok = false := by rw [← HOK.out]; unfold stpB; rw [HM.out, Bool.false_and, Bool.and_false]
    obtain rfl : D' = lkZ := by rw [← HD.out]; exact if_neg (by rw [HM.out]; rintro ⟨_, h⟩; cases h)
    go_enter Try.func31, Try.ntmps31
    go_wp2_with fail
    generalize ((w.alloc (.cells #[.int .i64 W, .slice A n c, .slice A2 n2 c2] 28)).alloc (.cells #[.int .i64 0, .slice none 0 0, .slice none 0 0] 28)) = W0 at X1 Z1 HB1 HT1 ⊢
    refine (lockOk_any HT1.out).mono ?_
    rw [HA.out]
    rintro e w1 ⟨rfl, hb1⟩
    have HB2 := Lib.hid (HB1.out.trans (hb1.mono HB1.out.size))
    have Z2 := Lib.hid (Z1.out.below hb1 Z1.out.lt)
    have X2 := Lib.hid (X1.out.below hb1 X1.out.lt)
    clear hb1 X1 Z1 HT1 HB1
    have p0 := X2.out.cell 0
    have p1 := X2.out.cell 1
    have p2 := X2.out.cell 2
    have pl := X2.out.lt
    have z0 := Z2.out.cell 0
    have z1 := Z2.out.cell 1
    have z2 := Z2.out.cell 2
    have y0 := Z2.out.frz 0
    have y1 := Z2.out.frz 1
    have y2 := Z2.out.frz 2
    have zl := Z2.out.lt
    simp at p0 p1 p2 z0 z1 z2
    go_wp2_with fail
    refine (l6In_any x 0 ((n : Int) - 1) _).mono ?_
    rw [HMB.out]
    rintro e w9 ⟨rfl, rfl⟩
    go_wp2_with fail
    refine bodyPost_ret (v := .tuple #[.agg #[.int .i64 0, .slice none 0 0, .slice none 0 0], .bool false]) (by simp [results, Try.results31, go_sem, z0, z1, z2]) rfl ⟨_, _, _, [], rfl, KM.zero (bel3 HB2.out (by omega) _ _ _)⟩
  obtain ⟨i, hi, rfl, hx⟩ := may_iff.1 HM.out
  obtain ⟨cn, hc⟩ : ∃ cn, canB D i = cn := ⟨_, rfl⟩
  have HC := Lib.hid hc
  have hin : i < n := by rw [← HL.out]; exact hi
  have HI := Lib.hid hi
  have HS := Lib.hid (show D' = if canB D i = true then stepD D i else D from by rw [← HD.out]; unfold stpL; rw [if_pos ⟨HA.out, HM.out⟩, Int.toNat_natCast])
  have HK := Lib.hid (show ok = canB D i from by rw [← HOK.out]; unfold stpB; rw [HA.out, HM.out, Int.toNat_natCast]; rfl)
  rw [hc] at HK
  clear hc hi hx HD HOK
  go_enter Try.func31, Try.ntmps31
  go_wp2_with fail
  generalize ((w.alloc (.cells #[.int .i64 W, .slice A n c, .slice A2 n2 c2] 28)).alloc (.cells #[.int .i64 0, .slice none 0 0, .slice none 0 0] 28)) = W0 at X1 Z1 HB1 HT1 ⊢
  refine (lockOk_any HT1.out).mono ?_
  rw [HA.out]
  rintro e w1 ⟨rfl, hb1⟩
  have HB2 := Lib.hid (HB1.out.trans (hb1.mono HB1.out.size))
  have Z2 := Lib.hid (Z1.out.below hb1 Z1.out.lt)
  have X2 := Lib.hid (X1.out.below hb1 X1.out.lt)
  have HT2 := Lib.hid (Ty.below_w HT1.out hb1)
  clear hb1 X1 Z1 HT1 HB1
  have p0 := X2.out.cell 0
  have p1 := X2.out.cell 1
  have p2 := X2.out.cell 2
  have pl := X2.out.lt
  simp at p0 p1 p2
  go_wp2_with fail
  refine (l6In_any i 0 ((n : Int) - 1) _).mono ?_
  rw [HMB.out]
  rintro e w9 ⟨rfl, rfl⟩
  go_wp2_with fail
  refine (l12Can_any HT2.out i HI.out).mono ?_
  rw [HC.out]
  rintro e w3 ⟨rfl, hb1⟩
  have HB3 := Lib.hid (HB2.out.trans (hb1.mono HB2.out.size))
  have Z3 := Lib.hid (Z2.out.below hb1 Z2.out.lt)
  have X3 := Lib.hid (X2.out.below hb1 X2.out.lt)
  have HT3 := Lib.hid (Ty.below_w HT2.out hb1)
  clear hb1 X2 Z2 HT2 HB2 p0 p1 p2 pl
  have p0 := X3.out.cell 0
  have p1 := X3.out.cell 1
  have p2 := X3.out.cell 2
  have pl := X3.out.lt
  simp at p0 p1 p2
  have HLM := Lib.hid (fun (u : World) (hb4 : Below w3.heap.size w3 u) => (Z3.out.below hb4 Z3.out.lt))
  have hzz := Z3.out.lt
  cases cn
  · obtain rfl : ok = false := HK.out
    obtain rfl : D' = D := by rw [HS.out, HC.out]; rfl
    go_wp2_with fail
    refine (l12Copy_any HT3.out HSM.out).mono ?_
    rintro e w4 ⟨g0, g1, k0, k1, rfl, ho0, ho1, hne, hb4⟩
    have Z4 := Lib.hid (HLM.out w4 hb4)
    have HB4 := Lib.hid (HB3.out.trans (hb4.mono HB3.out.size))
    have HQ := Lib.hid (show LM (w3.heap.size + 2) w4 D' g0 g1 k1 from ⟨OwnE.row ho0 rfl, ho1, (OwnE.lt ho0).1, hne⟩)
    clear ho0 ho1 hne hb4
    have z0 := Z4.out.cell 0
    have z1 := Z4.out.cell 1
    have z2 := Z4.out.cell 2
    have y0 := Z4.out.frz 0
    have y1 := Z4.out.frz 1
    have y2 := Z4.out.frz 2
    have zl := Z4.out.lt
    simp at z0 z1 z2
    rw [HW.out]
    obtain ⟨n3, hn3⟩ : ∃ n3, D'.2.2.length = n3 := ⟨_, rfl⟩
    have HN3 := Lib.hid hn3
    rw [HL.out, hn3]
    clear hn3
    go_wp2_with fail
    refine bodyPost_ret (v := .tuple #[.agg #[.int .i64 W, .slice (some ⟨g0, 0, none⟩) n k0, .slice (some ⟨g1, 0, none⟩) n3 k1], .bool false]) (by simp [results, Try.results31, go_sem, z0, z1, z2]) rfl ⟨.int .i64 W, .slice (some ⟨g0, 0, none⟩) n k0, .slice (some ⟨g1, 0, none⟩) n3 k1, [g0, g1], rfl, ?_⟩
    have hq := (((HQ.out.cell (X := w.heap.size + 1) (by omega) 0 (.int .i64 W)).cell (X := w.heap.size + 1) (by omega) 1 (.slice (some ⟨g0, 0, none⟩) n k0)).cell (X := w.heap.size + 1) (by omega) 2 (.slice (some ⟨g1, 0, none⟩) n3 k1)).km (w := w) (c0 := k0) (by have := HB3.out.size; omega) (by rw [HL.out]; omega) HSM.out (bel3 HB4.out (by omega) _ _ _)
    rw [HW.out, HL.out, HN3.out] at hq
    exact hq
  · obtain rfl : ok = true := HK.out
    have HST := Lib.hid (show D' = stepD D i from by rw [HS.out, HC.out]; rfl)
    have HOK2 := Lib.hid (step_ok HLO.out HI.out HC.out)
    have HTO := Lib.hid (HLO.out.t i HI.out)
    go_wp2_with fail
    refine (l12Copy_any HT3.out HSM.out).mono ?_
    rintro e w4 ⟨g0, g1, k0, k1, rfl, ho0, ho1, hne, hb4⟩
    have Z4 := Lib.hid (HLM.out w4 hb4)
    have HB4 := Lib.hid (HB3.out.trans (hb4.mono HB3.out.size))
    have HQ := Lib.hid (show LM (w3.heap.size + 2) w4 D g0 g1 k1 from ⟨OwnE.row ho0 rfl, ho1, (OwnE.lt ho0).1, hne⟩)
    have hs4 : w3.heap.size + 2 ≤ w4.heap.size := by have h1 := OwnE.lt ho1; omega
    clear ho0 ho1 hne hb4
    have HSO := Lib.hid (small_ok HLO.out)
    have HSO2 := Lib.hid (small_ok HOK2.out)
    go_wp2_with fail
    refine (l12Step_any HQ.out HSO.out.2.2.1 HLO.out.rng hs4 HI.out HSO.out.2.1 HTO.out HLO.out.w HC.out).mono ?_
    rintro e w5 ⟨g2, k2, rfl, hq, hft, _⟩
    have hb5 : Below (w3.heap.size + 2) w4 w5 := hft.below hs4 fun b hb => by
      have h1 := HQ.out.lo
      have h2 := (OwnE.lt HQ.out.line).1
      rcases List.mem_cons.1 hb with rfl | hb
      · omega
      · rw [List.mem_singleton] at hb; omega
    clear hft
    rw [← HST.out] at hq ⊢
    have HQ2 := Lib.hid hq
    have HB5 := Lib.hid (HB4.out.trans (hb5.mono (by have := HB3.out.size; omega)))
    have Z5 := Lib.hid (Z4.out.below hb5 (by omega))
    rw [← HST.out] at HSO2
    clear hq hb5
    have z0 := Z5.out.cell 0
    have z1 := Z5.out.cell 1
    have z2 := Z5.out.cell 2
    have y0 := Z5.out.frz 0
    have y1 := Z5.out.frz 1
    have y2 := Z5.out.frz 2
    have zl := Z5.out.lt
    simp at z0 z1 z2
    obtain ⟨W3, hW3⟩ : ∃ W3, D'.1 = W3 := ⟨_, rfl⟩
    obtain ⟨n3, hn3⟩ : ∃ n3, D'.2.1.length = n3 := ⟨_, rfl⟩
    obtain ⟨n4, hn4'⟩ : ∃ n4, D'.2.2.length = n4 := ⟨_, rfl⟩
    have HW3 := Lib.hid hW3
    have HN3 := Lib.hid hn3
    have HN4 := Lib.hid hn4'
    rw [hW3, hn3, hn4']
    clear hW3 hn3 hn4'
    go_wp2_with fail
    refine bodyPost_ret (v := .tuple #[.agg #[.int .i64 W3, .slice (some ⟨g0, 0, none⟩) n3 k0, .slice (some ⟨g2, 0, none⟩) n4 k2], .bool true]) (by simp [results, Try.results31, go_sem, z0, z1, z2]) rfl ⟨.int .i64 W3, .slice (some ⟨g0, 0, none⟩) n3 k0, .slice (some ⟨g2, 0, none⟩) n4 k2, [g0, g2], rfl, ?_⟩
    have hq := (((HQ2.out.cell (X := w.heap.size + 1) (by omega) 0 (.int .i64 W3)).cell (X := w.heap.size + 1) (by omega) 1 (.slice (some ⟨g0, 0, none⟩) n3 k0)).cell (X := w.heap.size + 1) (by omega) 2 (.slice (some ⟨g2, 0, none⟩) n4 k2)).km (w := w) (c0 := k0) (by have := HB3.out.size; omega) HSO2.out.2.2.2 HSO2.out.1 (bel3 HB5.out (by omega) _ _ _)
    rw [HW3.out, HN3.out, HN4.out] at hq
    exact hq
end
end Go.Proofs.Ytpmigekejipohaa
