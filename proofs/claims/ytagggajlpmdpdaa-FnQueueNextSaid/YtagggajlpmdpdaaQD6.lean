/-
  The walk of FnQueueNext on drawn arguments.
-/
import Derived.Test.YtagggajlpmdpdaaQLaw
namespace Go.Proofs.Ytagggajlpmdpdaa
open Go.RowKit

section
variable {A : Option Addr} {n c : Nat} {w : World}
set_option maxHeartbeats 4000000 in
set_option maxRecDepth 100000 in
theorem dQueueNext_walk (hNxt : QNxt 34) (hc : Code w A n) (hcap : n ≤ c) (hcap2 : c ≤ maxLen) : Calls Try.prog 6 #[.slice A n c] w fun e w' => e = .returned (.bool true) ∧ Below w.heap.size w w' := by
  have hn := hc.1
  unfold maxLen at hn
  by_cases hbig : (1048576 : Int) < n
  · go_enter Try.func6, Try.ntmps6
    go_wp2_with fail
    go_ret
    exact ⟨rfl, Below.refl _ _⟩
  have HCODE := Lib.hid hc
  clear hc
  have HNXT := Lib.hid hNxt
  clear hNxt
  have HW0 := Lib.hid (Below.refl w.heap.size w)
  go_enter Try.func6, Try.ntmps6
  have HA0 := Lib.hid (show Below w.heap.size w w from (Below.refl _ _))
  go_wp2_with fail
  refine (dDrawQueueNext_any HCODE.out hcap hcap2).mono ?_
  rintro e w1 ⟨A0, n0, c0, D0, fp0, rfl, hm0, hf0, hl0, hcq0, hb1⟩
  have HC1 := Lib.hid (HA0.out.trans (hb1.mono HA0.out.size))
  have HW1 := Lib.hid (HW0.out.trans (HC1.out.mono HW0.out.size))
  clear hb1
  have HR0_1 := Lib.hid (tyQueue.mr hm0 fun b hb => (hf0 b hb).2)
  have HL0 := Lib.hid hl0
  have HS0 := Lib.hid (show smallQueue D0 from by unfold smallQueue; omega)
  have HK0 := Lib.hid (capQ (A := A0) hcq0)
  clear hm0 hf0 hl0 hcq0
  have HA1 := Lib.hid (show Below w1.heap.size w1 (w1.alloc (.cells #[.slice A0 n0 c0, .int .i64 D0.2] 25)) from ((Below.refl _ _).alloc (Nat.le_refl _) _))
  go_wp2_with fail
  refine (HNXT.out (Ty.below_w HR0_1.out HA1.out)).mono ?_
  rintro e w2 ⟨rfl, hb2⟩
  have HC2 := Lib.hid (HA1.out.trans (hb2.mono HA1.out.size))
  have HW2 := Lib.hid (HW1.out.trans (HC2.out.mono HW1.out.size))
  have HR0_2 := Lib.hid (Ty.below_w HR0_1.out HC2.out)
  have C0_2 := Lib.hid ((Box.new w1 #[.slice A0 n0 c0, .int .i64 D0.2] 25).below hb2 (by simp only [World.size_alloc]; omega))
  clear hb2
  have HA2 := Lib.hid (show Below w2.heap.size w2 w2 from (Below.refl _ _))
  have c0_c0 := C0_2.out.cell 0
  have c0_c1 := C0_2.out.cell 1
  simp at c0_c0 c0_c1
  have c0_l := C0_2.out.lt
  go_wp2_with fail
  refine (queueNext_any (Ty.below_w HR0_2.out HA2.out)).mono ?_
  rintro e w3 ⟨rfl, hb3⟩
  clear c0_c0 c0_c1 c0_l
  have HC3 := Lib.hid (HA2.out.trans (hb3.mono HA2.out.size))
  have HW3 := Lib.hid (HW2.out.trans (HC3.out.mono HW2.out.size))
  have HR0_3 := Lib.hid (Ty.below_w HR0_2.out HC3.out)
  have C0_3 := Lib.hid (C0_2.out.below HC3.out C0_2.out.lt)
  clear hb3
  by_cases h0 : 0 ≤ nxtR D0
  case neg =>
    generalize nxtR D0 = nn at h0 ⊢
    have h0' : decide (0 ≤ nn) = false := decide_eq_false h0
    clear h0
    have HA3 := Lib.hid (show Below w3.heap.size w3 w3 from (Below.refl _ _))
    have c0_c0 := C0_3.out.cell 0
    have c0_c1 := C0_3.out.cell 1
    simp at c0_c0 c0_c1
    have c0_l := C0_3.out.lt
    go_wp2_with fail
    go_ret
    exact ⟨rfl, HW3.out⟩
  obtain ⟨_, m, hm, hr3, hc0, he, hu, hmin⟩ := nxt_law h0
  have HLN := Lib.hid (qR_len HR0_3.out)
  have HRT := Lib.hid (qR_row HR0_3.out)
  have hmn : m < n0 := by rw [← HLN.out]; exact hm
  have HU := Lib.hid (show ∀ k, k < n0 → (tA D0.1 k).f0 = nxtR D0 → k = m from fun k hk => hu k (by rw [HLN.out]; exact hk))
  have HMIN := Lib.hid (show ∀ k, k < n0 → (tA D0.1 k).f3 = true → (tA D0.1 m).f2 ≤ (tA D0.1 k).f2 from fun k hk => hmin k (by rw [HLN.out]; exact hk))
  have HE := Lib.hid he
  have HR3 := Lib.hid hr3
  have hn6 : n0 ≤ 6 := by have := HL0.out; have := HLN.out; omega
  generalize nxtR D0 = nn at h0 HU HE
  clear hu hmin he hr3 hm
  obtain ⟨Cm, hCm⟩ : ∃ C, (tA D0.1 m).f2 = C := ⟨_, rfl⟩
  have HCM := Lib.hid hCm
  rw [hCm] at hc0
  clear hCm
  have c0_c0 := C0_3.out.cell 0
  have c0_c1 := C0_3.out.cell 1
  simp at c0_c0 c0_c1
  have c0_l := C0_3.out.lt
  go_wp2_with fail
  go_loopw [7, 8] (fun cc i wr => ∃ k : Nat, k ≤ n0 ∧ i = .int .i64 k ∧ cc = .int .i64 (if m < k then Cm else -1) ∧ wr = w3) (fun _ i _ => n0 - (intOf i).toNat)
  case atStart => exact ⟨0, Nat.zero_le _, rfl, by rw [if_neg (Nat.not_lt_zero m)], by trivial⟩
  case round =>
    obtain ⟨k, hk, rfl, rfl, rfl⟩ := hrel
    by_cases hlt : k < n0
    · obtain ⟨b, o, rfl, hb0, hcs⟩ := HRT.out (by omega)
      have hk1 : (k : Int) < n0 := by omega
      have hk2 : (0 : Int) ≤ k := by omega
      obtain ⟨t0, t1, t2, t3⟩ := hcs k hlt
      clear hcs
      by_cases hkm : k = m
      · subst hkm
        have h0' := HE.out
        have h3' := HR3.out
        have h2' := HCM.out
        rw [h0'] at t0
        rw [h3'] at t3
        rw [h2'] at t2
        rw [if_neg (Nat.lt_irrefl k)]
        clear h0' h3' h2' t1
        go_wp2_with fail
        go_roundw
        case rel => exact ⟨k + 1, by omega, by go_num, by rw [if_pos (Nat.lt_succ_self k)], by trivial⟩
        case measure => simp [intOf]; omega
      · have hne : ¬ (tA D0.1 k).f0 = nn := fun e => hkm (HU.out k hlt e)
        generalize (tA D0.1 k).f0 = f0 at t0 hne
        generalize (tA D0.1 k).f3 = f3 at t3
        have hq : (f0 == nn) = false := by rw [beq_eq_false_iff_ne]; exact hne
        have hif : (if m < k then Cm else -1) = (if m < k + 1 then Cm else -1) := by
          by_cases h : m < k
          · rw [if_pos h, if_pos (by omega)]
          · rw [if_neg h, if_neg (by omega)]
        rw [hif]
        have HIF := Lib.hid hif
        clear t1 t2 hif
        obtain ⟨cv, hcv⟩ : ∃ cv, (if m < k + 1 then Cm else -1) = cv := ⟨_, rfl⟩
        rw [hcv]
        have HCV := Lib.hid hcv
        clear hcv
        go_wp2_with fail
        go_roundw
        case rel => exact ⟨k + 1, by omega, by go_num, by rw [HCV.out], by trivial⟩
        case measure => simp [intOf]; omega
    · obtain rfl : k = n0 := by omega
      rw [if_pos hmn]
      go_wp2_with fail
      go_loopw [9] (fun i wz => ∃ k2 : Nat, k2 ≤ k ∧ i = .int .i64 k2 ∧ wz = wr) (fun i _ => k - (intOf i).toNat)
      case atStart => exact ⟨0, Nat.zero_le _, rfl, by trivial⟩
      case round =>
        obtain ⟨k2, hk2, rfl, rfl⟩ := hrel
        by_cases hlt2 : k2 < k
        · obtain ⟨b, o, rfl, hb0, hcs⟩ := HRT.out (by omega)
          have hk1 : (k2 : Int) < k := by omega
          have hk3 : (0 : Int) ≤ k2 := by omega
          obtain ⟨t0, t1, t2, t3⟩ := hcs k2 hlt2
          have hmi := HMIN.out k2 hlt2
          rw [HCM.out] at hmi
          clear hcs t0 t1 hlt
          generalize (tA D0.1 k2).f2 = f2 at t2 hmi
          generalize (tA D0.1 k2).f3 = f3 at t3 hmi
          cases f3
          · clear hmi
            go_wp2_with fail
            go_roundw
            case rel => exact ⟨k2 + 1, by omega, by go_num, by trivial⟩
            case measure => simp [intOf]; omega
          · have hmi := hmi rfl
            have hnl : ¬ f2 < Cm := by omega
            go_wp2_with fail
            go_roundw
            case rel => exact ⟨k2 + 1, by omega, by go_num, by trivial⟩
            case measure => simp [intOf]; omega
        · obtain rfl : k2 = k := by omega
          clear hlt hlt2
          go_wp2_with fail
          go_ret
          exact ⟨ret_bool (by simp), HW3.out⟩
end
end Go.Proofs.Ytagggajlpmdpdaa
