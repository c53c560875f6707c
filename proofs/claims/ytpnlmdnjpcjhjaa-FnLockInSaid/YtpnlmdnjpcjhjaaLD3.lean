/-
  The walk of FnLockIn on drawn arguments.
-/
import Derived.Test.YtpnlmdnjpcjhjaaLDraw3
import Derived.Test.YtpnlmdnjpcjhjaaTqLock
import Derived.Test.YtpnlmdnjpcjhjaaLS6
namespace Go.Proofs.Ytpnlmdnjpcjhjaa
open Go.RowKit

section
variable {A : Option Addr} {n c : Nat} {w : World}
set_option maxHeartbeats 4000000 in
set_option maxRecDepth 100000 in
theorem dLockIn_walk (hIn : KIn 24) (hc : Code w A n) (hcap : n ≤ c) (hcap2 : c ≤ maxLen) : Calls Try.prog 7 #[.slice A n c] w fun e w' => e = .returned (.bool true) ∧ Below w.heap.size w w' := by
  have hn := hc.1
  unfold maxLen at hn
  by_cases hbig : (1048576 : Int) < n
  · go_enter Try.func7, Try.ntmps7
    go_wp2_with fail
    go_ret
    exact ⟨rfl, Below.refl _ _⟩
  have HCODE := Lib.hid hc
  clear hc
  have HIN := Lib.hid hIn
  clear hIn
  have HW0 := Lib.hid (Below.refl w.heap.size w)
  go_enter Try.func7, Try.ntmps7
  have HA0 := Lib.hid (show Below w.heap.size w w from (Below.refl _ _))
  go_wp2_with fail
  refine (dDrawLockIn_any HCODE.out hcap hcap2).mono ?_
  rintro e w1 ⟨g0, d0, Al, dl, D0, fp0, rfl, hm0, hf0, hs0, hb1⟩
  have HC1 := Lib.hid (HA0.out.trans (hb1.mono HA0.out.size))
  have HW1 := Lib.hid (HW0.out.trans (HC1.out.mono HW0.out.size))
  clear hb1
  have HR0_1 := Lib.hid (tyLock.mr hm0 fun b hb => (hf0 b hb).2)
  have HS0 := Lib.hid (show smallLock D0 from ⟨by omega, by omega⟩)
  have HZ0 := Lib.hid hs0
  clear hm0 hf0 hs0
  obtain ⟨n0, hn0⟩ : ∃ n0, D0.2.1.length = n0 := ⟨_, rfl⟩
  obtain ⟨nl, hnl⟩ : ∃ nl, D0.2.2.length = nl := ⟨_, rfl⟩
  obtain ⟨W0, hW0⟩ : ∃ W0, D0.1 = W0 := ⟨_, rfl⟩
  have HN0 := Lib.hid hn0
  have HN2 := Lib.hid hnl
  have HV0 := Lib.hid hW0
  rw [hn0, hnl, hW0] at HR0_1 ⊢
  rw [hn0, hnl] at HZ0
  clear hn0 hnl hW0
  obtain ⟨r, hr⟩ : ∃ r, inD D0 = r := ⟨_, rfl⟩
  have HRR := Lib.hid hr
  clear hr
  have HA1 := Lib.hid (show Below w1.heap.size w1 (w1.alloc (.cells #[.int .i64 W0, .slice (some ⟨g0, 0, none⟩) n0 d0, .slice Al nl dl] 28)) from ((Below.refl _ _).alloc (Nat.le_refl _) _))
  go_wp2_with fail
  refine (HIN.out (Ty.below_w HR0_1.out HA1.out)).mono ?_
  rintro e w2 ⟨rfl, hb2⟩
  have HC2 := Lib.hid (HA1.out.trans (hb2.mono HA1.out.size))
  have HW2 := Lib.hid (HW1.out.trans (HC2.out.mono HW1.out.size))
  have HR0_2 := Lib.hid (Ty.below_w HR0_1.out HC2.out)
  have C0_2 := Lib.hid ((Box.new w1 #[.int .i64 W0, .slice (some ⟨g0, 0, none⟩) n0 d0, .slice Al nl dl] 28).below hb2 (by simp only [World.size_alloc]; omega))
  clear hb2
  rw [HRR.out]
  have HA2 := Lib.hid (show Below w2.heap.size w2 w2 from (Below.refl _ _))
  have c0_c0 := C0_2.out.cell 0
  have c0_c1 := C0_2.out.cell 1
  have c0_c2 := C0_2.out.cell 2
  simp at c0_c0 c0_c1 c0_c2
  have c0_l := C0_2.out.lt
  go_wp2_with fail
  refine (lockIn_any (Ty.below_w HR0_2.out HA2.out)).mono ?_
  rintro e w3 ⟨rfl, hb3⟩
  clear c0_c0 c0_c1 c0_c2 c0_l
  have HC3 := Lib.hid (HA2.out.trans (hb3.mono HA2.out.size))
  have HW3 := Lib.hid (HW2.out.trans (HC3.out.mono HW2.out.size))
  have HR0_3 := Lib.hid (Ty.below_w HR0_2.out HC3.out)
  have C0_3 := Lib.hid (C0_2.out.below HC3.out C0_2.out.lt)
  clear hb3
  rw [HRR.out]
  by_cases h0 : 0 ≤ r
  case neg =>
    have h0' : r < 0 := by omega
    have h9 : decide (0 ≤ r) = false := decide_eq_false h0
    clear h0 h0'
    have HA3 := Lib.hid (show Below w3.heap.size w3 w3 from (Below.refl _ _))
    have c0_c0 := C0_3.out.cell 0
    have c0_c1 := C0_3.out.cell 1
    have c0_c2 := C0_3.out.cell 2
    simp at c0_c0 c0_c1 c0_c2
    have c0_l := C0_3.out.lt
    go_wp2_with fail
    go_ret
    exact ⟨rfl, HW3.out⟩
  have HLB := Lib.hid (show lkB D0 = true from by
    cases e : lkB D0
    · have h := HRR.out
      unfold inD at h
      rw [e] at h
      simp at h
      omega
    · rfl)
  have HINT := Lib.hid (show inTo D0 n0 = r from by
    have h := HRR.out
    unfold inD at h
    rw [HLB.out, if_pos rfl, HN0.out] at h
    exact h)
  obtain ⟨Ao, no, co, A2o, n2o, c2o, hcs, ⟨_, _, hro⟩, _⟩ := tyLock_R HR0_3.out
  simp only [List.cons.injEq, Value.slice.injEq, and_true] at hcs
  obtain ⟨_, ⟨rfl, rfl, rfl⟩, ⟨rfl, rfl, rfl⟩⟩ := hcs
  have HROW := Lib.hid (rowL hro)
  clear hro
  have c0_c0 := C0_3.out.cell 0
  have c0_c1 := C0_3.out.cell 1
  have c0_c2 := C0_3.out.cell 2
  simp at c0_c0 c0_c1 c0_c2
  have c0_l := C0_3.out.lt
  go_wp2_with fail
  have hn4 : n0 ≤ 4 := HZ0.out.2.1
  go_loopw [7, 8] (fun cnt i wr => ∃ k : Nat, k ≤ n0 ∧ i = .int .i64 k ∧ cnt = .int .i64 (inTo D0 k) ∧ wr = w3) (fun _ i _ => n0 - (intOf i).toNat)
  case atStart => exact ⟨0, Nat.zero_le _, rfl, rfl, rfl⟩
  case round =>
    obtain ⟨k, hk, rfl, rfl, rfl⟩ := hrel
    by_cases hlt : k < n0
    · obtain ⟨b, o, e, hb0, hc⟩ := HROW.out (by omega)
      injection e with e
      injection e with e1 e2
      subst e1 e2
      have hk1 : (k : Int) < n0 := by omega
      have hk2 : (0 : Int) ≤ k := by omega
      obtain ⟨t0, t1, t2, t3⟩ := hc k hlt
      clear hc
      simp only [Nat.zero_add] at t0
      have HS9 := Lib.hid (show inTo D0 (k + 1) = inTo D0 k + (if (th D0 k).f0 = 4 then 1 else 0) from rfl)
      have hnn := inTo_nn (D := D0) (n := k)
      obtain ⟨z, hz⟩ : ∃ z, inTo D0 k = z := ⟨_, rfl⟩
      rw [hz] at HS9 hnn
      rw [hz]
      clear hz
      obtain ⟨t, ht⟩ : ∃ t, th D0 k = t := ⟨_, rfl⟩
      rw [show D0.2.1.getD k thZ = t from ht] at t0
      rw [ht] at HS9
      clear ht t1 t2 t3
      by_cases h4 : t.f0 = 4
      · rw [h4] at t0
        rw [if_pos h4] at HS9
        have hw1 : IntKind.i64.wrap (z + 1) = z + 1 := IntWalk.i64_in _ (by omega)
        clear h4
        go_wp2_with fail
        go_roundw
        case rel => exact ⟨k + 1, by omega, by go_num, by simp [HS9.out]⟩
        case measure => simp [intOf]; omega
      · rw [if_neg h4, Int.add_zero] at HS9
        have e4 : (t.f0 == 4) = false := by simpa using h4
        clear h4
        go_wp2_with fail
        go_roundw
        case rel => exact ⟨k + 1, by omega, by go_num, by simp [HS9.out]⟩
        case measure => simp [intOf]; omega
    · obtain rfl : k = n0 := by omega
      rw [HINT.out]
      go_wp2_with fail
      go_ret
      exact ⟨ret_bool (by simp), HW3.out⟩
end
end Go.Proofs.Ytpnlmdnjpcjhjaa
