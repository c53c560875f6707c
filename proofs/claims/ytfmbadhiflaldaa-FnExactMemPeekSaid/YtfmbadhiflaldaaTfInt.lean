/-
  The laws' helpers on slices of Int: eqS, markS, heldS.
-/
import Derived.Test.YtfmbadhiflaldaaTKit
import Derived.Test.YtfmbadhiflaldaaReg
namespace Go.Proofs.Ytfmbadhiflaldaa
open Go.RowKit

theorem infoInt : ∃ i, Try.prog.info? 3 = some i ∧ i.zero = some (.int .i64 0) ∧ i.size = 1 ∧ i.bytes = 8 := info_parts (by kernel_rfl : (Try.prog.info? 3).map (fun i => (i.zero, i.size, i.bytes)) = some (some (.int .i64 0), 1, 8))

section
variable {A : Option Addr} {n c : Nat} {B : Option Addr} {d : Nat} {w : World} {hi hi2 : Nat} {l : List Int} {fp : List Nat}
set_option maxHeartbeats 1000000 in
theorem eqInt_S (hr : RowF elI w hi A n l) (hr2 : RowF elI w hi2 B n l) (hn : n ≤ 9223372036854775807) :
    Calls Try.prog 119 #[.slice A n c, .slice B n d] w fun e w' => e = .returned (.bool true) ∧ Below w.heap.size w w' := by
  have HR := Lib.hid hr
  have HR2 := Lib.hid hr2
  clear hr hr2
  go_enter Try.func119, Try.ntmps119
  go_wp2_with fail
  go_loopw [5] (fun i wr => ∃ k : Nat, k ≤ n ∧ i = .int .i64 k ∧ Below w.heap.size w wr) (fun i _ => n - (intOf i).toNat)
  case atStart => exact ⟨0, Nat.zero_le _, rfl, Below.refl _ _⟩
  case round =>
    obtain ⟨k, hk, rfl, hb⟩ := hrel
    have HB := Lib.hid hb
    clear hb
    by_cases hlt : k < n
    · obtain ⟨b, o, rfl, _, hb0, hc⟩ := HR.out (by omega)
      obtain ⟨b2, o2, rfl, _, hb2, hd⟩ := HR2.out (by omega)
      have hk1 : (k : Int) < n := by omega
      have hk2 : (0 : Int) ≤ k := by omega
      have c0 : w.cell? ⟨b, o + k, none⟩ = some (.int .i64 (l.getD k elI.z)) := by
        have h := hc k hlt 0 (by decide)
        rw [show o + k * elI.K + 0 = o + k from by show o + k * 1 + 0 = o + k; omega] at h
        exact h
      have d0 : w.cell? ⟨b2, o2 + k, none⟩ = some (.int .i64 (l.getD k elI.z)) := by
        have h := hd k hlt 0 (by decide)
        rw [show o2 + k * elI.K + 0 = o2 + k from by show o2 + k * 1 + 0 = o2 + k; omega] at h
        exact h
      rw [← kc HB.out _ _ hb0] at c0
      rw [← kc HB.out _ _ hb2] at d0
      generalize l.getD k elI.z = a at c0 d0
      clear hc hd
      go_wp2
      go_quiet (fail)
      go_wp2
      go_roundw
      case rel => exact ⟨k + 1, by omega, by go_num, bel_drewN HB.out _⟩
      case measure => simp [intOf]; omega
    · obtain rfl : k = n := by omega
      go_wp2
      go_ret
      exact ⟨rfl, HB.out⟩

def mkInt : Int → Int := fun k => k
set_option maxHeartbeats 2000000 in
theorem markInt_S (k : Int) (h0 : 0 < k) (h1 : k ≤ 1000000000) (hl : l.length = n) (hn : n ≤ 1048576) (hm : RowM elI w fp A n l) :
    Calls Try.prog 122 #[.slice A n c, .int .i64 k] w fun e w' => e = .returned (.int .i64 (k + (n : Int))) ∧ RowM elI w' fp A n (mksG mkInt 1 k n) ∧ Foot w w' fp := by
  have HL := Lib.hid hl
  have HM := Lib.hid hm
  clear hl
  by_cases hz : 0 < n
  · obtain ⟨b, o, rfl, rfl, hb0, _, _⟩ := hm hz
    have HZ := Lib.hid hz
    clear hz hm
    go_enter Try.func122, Try.ntmps122
    go_wp2_with fail
    go_loopw [1, 5] (fun x i wr => ∃ q : Nat, q ≤ n ∧ i = .int .i64 q ∧ x = .int .i64 (k + (q : Int)) ∧ RowM elI wr [b] (some ⟨b, o, none⟩) n (mkToG mkInt 1 k l q) ∧ Foot w wr [b]) (fun _ i _ => n - (intOf i).toNat)
    case atStart => exact ⟨0, Nat.zero_le _, rfl, by go_num, by rw [mkToG_zero]; exact HM.out, Foot.refl _ _⟩
    case round =>
      obtain ⟨q, hq, rfl, rfl, hr, ht⟩ := hrel
      have HRR := Lib.hid hr
      have HT := Lib.hid ht
      by_cases hlt : q < n
      · obtain ⟨b2, o2, e2, _, hbl, hf, hc⟩ := hr (by omega)
        injection e2 with e2
        injection e2 with e3 e4
        subst e3 e4
        have hk1 : (q : Int) < n := by omega
        have hk2 : (0 : Int) ≤ q := by omega
        have HX := Lib.hid (mkToG_step elI.z (mk := mkInt) (s := 1) (k := k) HL.out hlt)
        have HXL := Lib.hid (mkToG_len (mk := mkInt) (s := 1) (k := k) HL.out hq)
        have t0 : wr.cell? ⟨b, o + q, none⟩ = some (.int .i64 ((mkToG mkInt 1 k l q).getD q elI.z)) := by
          have h := hc q hlt 0 (by decide)
          rw [show o + q * elI.K + 0 = o + q from by show o + q * 1 + 0 = o + q; omega] at h
          exact h
        have f0 : wr.frozen? ⟨b, o + q, none⟩ = false := hf _
        generalize (mkToG mkInt 1 k l q).getD q elI.z = zz at t0
        clear hc hf hr ht
        obtain ⟨KK, hK⟩ : ∃ KK : Int, k + (q : Int) = KK := ⟨_, rfl⟩
        have hKb : 0 < KK ∧ KK ≤ 1010000000 := by omega
        have hK2 : k + (1 : Nat) * (q : Int) = KK := by omega
        rw [hK2] at HX
        rw [hK]
        have HK := Lib.hid hK
        clear hK hK2
        go_wp2
        go_roundw
        case rel =>
          have h := HRR.out.put HXL.out q hlt (mkInt KK)
          rw [HX.out] at h
          rw [show o + q * elI.K = o + q from by show o + q * 1 = o + q; omega] at h
          have hk' := HK.out
          refine ⟨q + 1, by omega, by go_num, ?_, h, (HT.out.set (List.mem_singleton.2 rfl) _ _)⟩
          exact congrArg (Value.int .i64) (by omega)
        case measure => simp [intOf]; omega
      · obtain rfl : q = n := by omega
        clear hr ht
        go_wp2
        go_ret
        have hrr := HRR.out
        rw [mkToG_end HL.out] at hrr
        exact ⟨rfl, hrr, HT.out⟩
  · obtain rfl : n = 0 := by omega
    clear hm
    go_enter Try.func122, Try.ntmps122
    go_wp2_with fail
    go_loop [1, 5] (fun x i => x = .int .i64 k ∧ i = .int .i64 0) (fun _ _ => 0)
    case atStart => exact ⟨rfl, rfl⟩
    case round =>
      obtain ⟨rfl, rfl⟩ := hrel
      go_wp2
      go_ret
      exact ⟨ret_int (by omega), fun h => absurd h (Nat.lt_irrefl 0), Foot.refl _ _⟩

set_option maxHeartbeats 2000000 in
theorem heldInt_S (k : Int) (h0 : 0 < k) (h1 : k ≤ 1000000000) (hn : n ≤ 1048576) (hr : RowF elI w hi A n (mksG mkInt 1 k n)) :
    Calls Try.prog 126 #[.slice A n c, .int .i64 k] w fun e w' => e = .returned (.int .i64 (k + (n : Int))) ∧ Below w.heap.size w w' := by
  have HR := Lib.hid hr
  clear hr
  go_enter Try.func126, Try.ntmps126
  go_wp2_with fail
  go_loopw [1, 5] (fun x i wr => ∃ q : Nat, q ≤ n ∧ i = .int .i64 q ∧ x = .int .i64 (k + (q : Int)) ∧ Below w.heap.size w wr) (fun _ i _ => n - (intOf i).toNat)
  case atStart => exact ⟨0, Nat.zero_le _, rfl, by go_num, Below.refl _ _⟩
  case round =>
    obtain ⟨q, hq, rfl, rfl, hb⟩ := hrel
    have HB := Lib.hid hb
    clear hb
    by_cases hlt : q < n
    · obtain ⟨b, o, rfl, _, hb0, hc⟩ := HR.out (by omega)
      have hk1 : (q : Int) < n := by omega
      have hk2 : (0 : Int) ≤ q := by omega
      obtain ⟨KK, hK⟩ : ∃ KK : Int, k + (q : Int) = KK := ⟨_, rfl⟩
      have hKb : 0 < KK ∧ KK ≤ 1010000000 := by omega
      have hK2 : k + (1 : Nat) * (q : Int) = KK := by omega
      have c0 : wr.cell? ⟨b, o + q, none⟩ = some (.int .i64 (KK)) := by
        have h := hc q hlt 0 (by decide)
        rw [show o + q * elI.K + 0 = o + q from by show o + q * 1 + 0 = o + q; omega, mksG_at _ hlt, hK2, ← kc HB.out _ _ hb0] at h
        exact h
      rw [hK]
      have HK := Lib.hid hK
      clear hK hK2 hc
      go_wp2
      go_roundw
      case rel =>
        have hk' := HK.out
        exact ⟨q + 1, by omega, by go_num, congrArg (Value.int .i64) (by omega), HB.out⟩
      case measure => simp [intOf]; omega
    · obtain rfl : q = n := by omega
      go_wp2
      go_ret
      exact ⟨rfl, HB.out⟩
end
end Go.Proofs.Ytfmbadhiflaldaa
