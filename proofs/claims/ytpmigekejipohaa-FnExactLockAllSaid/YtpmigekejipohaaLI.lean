/-
  Locks: the program's LockStuck; what is asked of the program's functions is all there.
-/
import Derived.Test.YtpmigekejipohaaLIj
namespace Go.Proofs.Ytpmigekejipohaa
open Go.RowKit

section
variable {w : World}
set_option maxHeartbeats 4000000 in
theorem lockStkI : KStk 25 := by
  intro w hi x0 x1 x2 D h
  have HR0 := Lib.hid h
  obtain ⟨A, n, c, A2, n2, c2, hcs, ⟨hl, hn, _⟩, ⟨hl2, hn2, _⟩⟩ := tyLock_R h
  simp only [List.cons.injEq, and_true] at hcs
  obtain ⟨rfl, rfl, rfl⟩ := hcs
  have HL := Lib.hid hl
  have HL2 := Lib.hid hl2
  obtain ⟨W, hW⟩ : ∃ W, D.1 = W := ⟨_, rfl⟩
  have HW := Lib.hid hW
  rw [hW] at HR0 ⊢
  have X1 := Lib.hid (Box.new w #[.int .i64 W, .slice A n c, .slice A2 n2 c2] 28)
  have HB1 := Lib.hid (show Below w.heap.size w (w.alloc (.cells #[.int .i64 W, .slice A n c, .slice A2 n2 c2] 28)) from (Below.refl _ _).alloc (Nat.le_refl _) _)
  have HT1 := Lib.hid (Ty.below_w HR0.out HB1.out)
  clear h hW hl hn hl2 hn2
  obtain ⟨r, hr⟩ : ∃ r, stkB D = r := ⟨_, rfl⟩
  rw [hr]
  have HRR := Lib.hid hr
  obtain ⟨a, ha⟩ : ∃ a, lkB D = a := ⟨_, rfl⟩
  have HA := Lib.hid ha
  clear hr ha
  go_enter Try.func25, Try.ntmps25
  go_wp2_with fail
  generalize w.alloc (.cells #[.int .i64 W, .slice A n c, .slice A2 n2 c2] 28) = W0 at X1 HB1 HT1 ⊢
  refine (lockOkI HT1.out).mono ?_
  rw [HA.out]
  rintro e w1 ⟨rfl, hb1⟩
  have HB2 := Lib.hid (HB1.out.trans (hb1.mono HB1.out.size))
  have X2 := Lib.hid (X1.out.below hb1 X1.out.lt)
  clear hb1 X1 HT1 HB1
  have p0 := X2.out.cell 0
  have p1 := X2.out.cell 1
  have p2 := X2.out.cell 2
  have pl := X2.out.lt
  simp at p0 p1 p2
  cases a
  · obtain rfl : r = false := by rw [← HRR.out]; unfold stkB; rw [HA.out]; rfl
    go_wp2_with fail
    go_ret
    exact ⟨rfl, HB2.out⟩
  have HST := Lib.hid (show r = (noneTo D n && !decide (n2 = 0)) from by rw [← HRR.out]; unfold stkB stuckB; rw [HA.out, HL.out, HL2.out]; rfl)
  have HSO := Lib.hid (small_ok (lk_iff.1 HA.out))
  clear HRR
  by_cases h0 : n2 = 0
  · obtain rfl : r = false := by rw [HST.out, h0]; simp
    subst h0
    go_wp2_with fail
    go_ret
    exact ⟨rfl, HB2.out⟩
  have e0 : ((n2 : Int) == 0) = false := by
    rw [beq_eq_false_iff_ne]
    omega
  have HST2 := Lib.hid (show r = noneTo D n from by rw [HST.out, decide_eq_false h0]; simp)
  have h4n : n ≤ 4 := by have := HSO.out.2.1; rw [HL.out] at this; omega
  clear HST h0
  go_wp2_with fail
  go_loopw [3, 18] (fun _ i wr => ∃ k : Nat, k ≤ n ∧ i = .int .i64 k ∧ noneTo D k = true ∧ Below w.heap.size w wr ∧ Box wr w.heap.size #[.int .i64 W, .slice A n c, .slice A2 n2 c2] 28) (fun _ i _ => n - (intOf i).toNat)
  case atStart => exact ⟨0, Nat.zero_le _, rfl, rfl, HB2.out, X2.out⟩
  case round =>
    obtain ⟨k, hk, rfl, hno, hb, hx⟩ := hrel
    have HB := Lib.hid hb
    have HX := Lib.hid hx
    have HNO := Lib.hid hno
    clear hb hx hno p0 p1 p2 pl X2
    have p0 := HX.out.cell 0
    have p1 := HX.out.cell 1
    have p2 := HX.out.cell 2
    have pl := HX.out.lt
    simp at p0 p1 p2
    by_cases hlt : k < n
    · have hk1 : (k : Int) < n := by omega
      have hk2 : (0 : Int) ≤ k := by omega
      have HTK := Lib.hid (Ty.below_w HR0.out HB.out)
      obtain ⟨cb, hcb⟩ : ∃ cb, canB D k = cb := ⟨_, rfl⟩
      have HCB := Lib.hid hcb
      have HSB := Lib.hid (show stpB D (k : Int) = cb from by
        unfold stpB
        rw [HA.out, may_iff.2 ⟨k, by rw [HL.out]; exact hlt, rfl, Int.toNat_natCast k⟩, Int.toNat_natCast, hcb]
        rfl)
      clear hcb
      go_wp2_with fail
      refine (lockStpI (k : Int) HTK.out HSO.out.1).mono ?_
      rw [HSB.out]
      rintro e w3 ⟨y0, y1, y2, fp, rfl, hm, _, _, hb3⟩
      obtain ⟨yA1, yn1, yc1, yA2, yn2, yc2, hcs⟩ := tyLock_shM hm
      simp only [List.cons.injEq, and_true] at hcs
      obtain ⟨rfl, rfl, rfl⟩ := hcs
      have HB3 := Lib.hid ((HB.out.trans (hb3.mono HB.out.size)).alloc (HB.out.trans (hb3.mono HB.out.size)).size (.cells #[.int .i64 (stpL D (k : Int)).1, .slice yA1 yn1 yc1, .slice yA2 yn2 yc2] 28))
      have HX3 := Lib.hid ((HX.out.below hb3 pl).alloc (.cells #[.int .i64 (stpL D (k : Int)).1, .slice yA1 yn1 yc1, .slice yA2 yn2 yc2] 28))
      clear hm hb3 p0 p1 p2 pl
      cases cb
      · go_wp2_with fail
        go_roundw
        case rel => exact ⟨k + 1, by omega, by go_num, by show (noneTo D k && !canB D k) = true; rw [HNO.out, HCB.out]; rfl, HB3.out, HX3.out⟩
        case measure => simp [intOf]; omega
      · obtain rfl : r = false := by
          rw [HST2.out]
          cases e : noneTo D n
          · rfl
          · have h := none_iff.1 e k hlt
            rw [HCB.out] at h
            cases h
        go_wp2_with fail
        go_ret
        exact ⟨rfl, HB3.out⟩
    · obtain rfl : k = n := by omega
      obtain rfl : r = true := by rw [HST2.out]; exact HNO.out
      go_wp2_with fail
      go_ret
      exact ⟨rfl, HB.out⟩
end
end Go.Proofs.Ytpmigekejipohaa
