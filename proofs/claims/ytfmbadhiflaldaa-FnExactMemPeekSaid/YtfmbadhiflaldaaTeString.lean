/-
  The laws' helpers on slices of String: toS, eqS, szS, markS, heldS.
-/
import Derived.Test.YtfmbadhiflaldaaNKit
import Derived.Test.YtfmbadhiflaldaaTMark
import Derived.Test.YtfmbadhiflaldaaReg
namespace Go.Proofs.Ytfmbadhiflaldaa
open Go.RowKit

theorem infoString : ∃ i, Try.prog.info? 9 = some i ∧ i.zero = some (.string .empty) ∧ i.size = 1 ∧ i.bytes = 16 := info_parts (by kernel_rfl : (Try.prog.info? 9).map (fun i => (i.zero, i.size, i.bytes)) = some (some (.string .empty), 1, 16))

section
variable {A : Option Addr} {n c : Nat} {B : Option Addr} {d : Nat} {w : World} {hi hi2 : Nat} {l : List ByteArray} {fp : List Nat}
set_option maxHeartbeats 1000000 in
theorem eqString_S (hr : RowF elS w hi A n l) (hr2 : RowF elS w hi2 B n l) (hn : n ≤ 9223372036854775807) :
    Calls Try.prog 118 #[.slice A n c, .slice B n d] w fun e w' => e = .returned (.bool true) ∧ Below w.heap.size w w' := by
  have HR := Lib.hid hr
  have HR2 := Lib.hid hr2
  clear hr hr2
  go_enter Try.func118, Try.ntmps118
  go_wp2_with fail
  go_loopw [5] (fun i wr => ∃ k : Nat, k ≤ n ∧ i = .int .i64 k ∧ Below w.heap.size w wr) (fun i _ => n - (intOf i).toNat)
  case atStart => exact ⟨0, Nat.zero_le _, rfl, Below.refl _ _⟩
  case round =>
    obtain ⟨k, hk, rfl, hb⟩ := hrel
    have HB := Lib.hid hb
    clear hb
    by_cases hlt : k < n
    · obtain ⟨b, o, rfl, _, hb0, hc⟩ := HR.out (by omega)
      obtain ⟨b2, o2, rfl, _, hb2, hd⟩ := HR2.out (by omega)
      have hk1 : (k : Int) < n := by omega
      have hk2 : (0 : Int) ≤ k := by omega
      have c0 : w.cell? ⟨b, o + k, none⟩ = some (.string (l.getD k elS.z)) := by
        have h := hc k hlt 0 (by decide)
        rw [show o + k * elS.K + 0 = o + k from by show o + k * 1 + 0 = o + k; omega] at h
        exact h
      have d0 : w.cell? ⟨b2, o2 + k, none⟩ = some (.string (l.getD k elS.z)) := by
        have h := hd k hlt 0 (by decide)
        rw [show o2 + k * elS.K + 0 = o2 + k from by show o2 + k * 1 + 0 = o2 + k; omega] at h
        exact h
      rw [← kc HB.out _ _ hb0] at c0
      rw [← kc HB.out _ _ hb2] at d0
      generalize l.getD k elS.z = a at c0 d0
      clear hc hd
      go_wp2
      go_quiet (fail)
      go_wp2
      go_roundw
      case rel => exact ⟨k + 1, by omega, by go_num, bel_drewN HB.out _⟩
      case measure => simp [intOf]; omega
    · obtain rfl : k = n := by omega
      go_wp2
      go_ret
      exact ⟨rfl, HB.out⟩

set_option maxHeartbeats 2000000 in
theorem toString_S (hr : RowF elS w hi A n l) (hl : l.length = n) (hn : n ≤ 1048576) :
    Calls Try.prog 115 #[.slice A n c] w fun e w' => ∃ g, e = .returned (.slice (some ⟨g, 0, none⟩) n n) ∧ RowM elS w' [g] (some ⟨g, 0, none⟩) n l ∧ w.heap.size ≤ g ∧ g < w'.heap.size ∧ Below w.heap.size w w' := by
  have hmk : ∀ u : World, (Instr.makeSlice 23 (.int .i64 (n : Int)) (.int .i64 (n : Int))).run Try.prog u = .ok (.slice (some ⟨u.heap.size, 0, none⟩) n n) (u.alloc (.cells (madeCells #[.string .empty] (n * 1)) 9)) := fun u => by
    obtain ⟨i0, hi, hz0, hz1, hz2⟩ := infoString
    have h := run_make (P := Try.prog) u 23 9 i0 _ Try.underlying23 hi hz0 .i64 .i64 (n : Int) (n : Int) (by omega) (Int.le_refl _) (by rw [hz2]; omega) (by omega)
    rw [hz1, Int.toNat_natCast] at h
    exact h
  have HR := Lib.hid hr
  have HL := Lib.hid hl
  clear hr hl
  go_enter Try.func115, Try.ntmps115
  go_wp2_with fail
  go_loopw [4] (fun i wr => ∃ k : Nat, k ≤ n ∧ i = .int .i64 k ∧ RowM elS wr [w.heap.size] (some ⟨w.heap.size, 0, none⟩) n (upG elS.z l n k) ∧ w.heap.size < wr.heap.size ∧ Below w.heap.size w wr) (fun i _ => n - (intOf i).toNat)
  case atStart =>
    refine ⟨0, Nat.zero_le _, rfl, ?_, by simp, (Below.refl _ _).alloc (Nat.le_refl _) _⟩
    rw [upG_zero]
    have h := RowM.made (E := elS) w n 9 #[.string .empty] rfl
    rw [show n * elS.K = n from Nat.mul_one n] at h
    exact h
  case round =>
    obtain ⟨k, hk, rfl, ho, hgT, hb⟩ := hrel
    have HO := Lib.hid ho
    have HB := Lib.hid hb
    clear hb
    by_cases hlt : k < n
    · obtain ⟨b, o, rfl, _, hb0, hc⟩ := HR.out (by omega)
      obtain ⟨gT, oT, eT, _, _, hfT, hcT⟩ := ho (by omega)
      injection eT with eT
      injection eT with eT1 eT2
      subst eT1 eT2
      have hk1 : (k : Int) < n := by omega
      have hk2 : (0 : Int) ≤ k := by omega
      have c0 : w.cell? ⟨b, o + k, none⟩ = some (.string (l.getD k elS.z)) := by
        have h := hc k hlt 0 (by decide)
        rw [show o + k * elS.K + 0 = o + k from by show o + k * 1 + 0 = o + k; omega] at h
        exact h
      rw [← kc HB.out _ _ hb0] at c0
      have HX := Lib.hid (upG_step (z := elS.z) HL.out hlt)
      have HXL := Lib.hid (upG_len (z := elS.z) HL.out hk)
      generalize l.getD k elS.z = a at c0 HX
      clear hc ho
      have HO1 := HO
      have HW1 := HB
      have HT := Lib.hid hcT
      have HFZ := Lib.hid hfT
      have t0 : wr.cell? ⟨w.heap.size, k, none⟩ = some (.string ((upG elS.z l n k).getD k elS.z)) := by
        have h := HT.out k hlt 0 (by decide)
        rw [show 0 + k * elS.K + 0 = k from by show 0 + k * 1 + 0 = k; omega] at h
        exact h
      have f0 : wr.frozen? ⟨w.heap.size, k, none⟩ = false := HFZ.out _
      generalize (upG elS.z l n k).getD k elS.z = zz at t0
      clear hcT hfT
      go_wp2
      go_roundw
      case rel =>
        refine ⟨k + 1, by omega, by go_num, ?_, by simp only [World.size_setCell]; omega, (HW1.out.setCell (Nat.le_refl _) _)⟩
        have h := HO1.out.put HXL.out k hlt a
        rw [HX.out] at h
        rw [show 0 + k * elS.K = k from by show 0 + k * 1 = k; omega] at h
        exact h
      case measure => simp [intOf]; omega
    · obtain rfl : k = n := by omega
      go_wp2
      go_ret
      refine ⟨_, rfl, ?_, Nat.le_refl _, hgT, HB.out⟩
      have h := HO.out
      rw [upG_end HL.out] at h
      exact h

def mkString : Int → ByteArray := fun k => markT k
set_option maxHeartbeats 2000000 in
theorem markString_S (k : Int) (h0 : 0 < k) (h1 : k + n ≤ 9000000) (hl : l.length = n) (hn : n ≤ 1048576) (hm : RowM elS w fp A n l) :
    Calls Try.prog 121 #[.slice A n c, .int .i64 k] w fun e w' => e = .returned (.int .i64 (k + (n : Int))) ∧ RowM elS w' fp A n (mksG mkString 1 k n) ∧ Foot w w' fp := by
  have HL := Lib.hid hl
  have HM := Lib.hid hm
  clear hl
  by_cases hz : 0 < n
  · obtain ⟨b, o, rfl, rfl, hb0, _, _⟩ := hm hz
    have HZ := Lib.hid hz
    clear hz hm
    go_enter Try.func121, Try.ntmps121
    go_wp2_with fail
    go_loopw [1, 5] (fun x i wr => ∃ q : Nat, q ≤ n ∧ i = .int .i64 q ∧ x = .int .i64 (k + (q : Int)) ∧ RowM elS wr [b] (some ⟨b, o, none⟩) n (mkToG mkString 1 k l q) ∧ Foot w wr [b]) (fun _ i _ => n - (intOf i).toNat)
    case atStart => exact ⟨0, Nat.zero_le _, rfl, by go_num, by rw [mkToG_zero]; exact HM.out, Foot.refl _ _⟩
    case round =>
      obtain ⟨q, hq, rfl, rfl, hr, ht⟩ := hrel
      have HRR := Lib.hid hr
      have HT := Lib.hid ht
      by_cases hlt : q < n
      · obtain ⟨b2, o2, e2, _, hbl, hf, hc⟩ := hr (by omega)
        injection e2 with e2
        injection e2 with e3 e4
        subst e3 e4
        have hk1 : (q : Int) < n := by omega
        have hk2 : (0 : Int) ≤ q := by omega
        have HX := Lib.hid (mkToG_step ByteArray.empty (mk := mkString) (s := 1) (k := k) HL.out hlt)
        have HXL := Lib.hid (mkToG_len (mk := mkString) (s := 1) (k := k) HL.out hq)
        have t0 : wr.cell? ⟨b, o + q, none⟩ = some (.string ((mkToG mkString 1 k l q).getD q .empty)) := by
          have h := hc q hlt 0 (by decide)
          rw [show o + q * elS.K + 0 = o + q from by show o + q * 1 + 0 = o + q; omega] at h
          exact h
        have f0 : wr.frozen? ⟨b, o + q, none⟩ = false := hf _
        generalize (mkToG mkString 1 k l q).getD q .empty = zz at t0
        clear hc hf hr ht
        obtain ⟨KK, hK⟩ : ∃ KK : Int, k + (q : Int) = KK := ⟨_, rfl⟩
        have hKb : 0 < KK ∧ KK ≤ 10000000 := by omega
        have hK2 : k + (1 : Nat) * (q : Int) = KK := by omega
        rw [hK2] at HX
        rw [hK]
        have HK := Lib.hid hK
        clear hK hK2
        go_wp2_with fail
        refine (markText_any KK hKb.1 hKb.2).mono ?_
        rintro e w2 ⟨rfl, hb2⟩
        have t1 := (hb2.cell (p := ⟨b, o + q, none⟩) hbl).trans t0
        have f1 := (hb2.frozen (p := ⟨b, o + q, none⟩) hbl).trans f0
        have HR2 := Lib.hid (HRR.out.frame fun x hx => hb2.block x (by rw [List.mem_singleton] at hx; rw [hx]; exact hbl))
        have HT2 := Lib.hid (HT.out.trans (Foot.of_below hb2 [b]))
        have hbl2 := Nat.lt_of_lt_of_le hbl hb2.size
        clear t0 f0 hb2
        go_wp2
        go_roundw
        case rel =>
          have h := HR2.out.put HXL.out q hlt (mkString KK)
          rw [HX.out] at h
          rw [show o + q * elS.K = o + q from by show o + q * 1 = o + q; omega] at h
          have hk' := HK.out
          refine ⟨q + 1, by omega, by go_num, ?_, h, HT2.out.set (List.mem_singleton.2 rfl) _ _⟩
          exact congrArg (Value.int .i64) (by omega)
        case measure => simp [intOf]; omega
      · obtain rfl : q = n := by omega
        clear hr ht
        go_wp2
        go_ret
        have hrr := HRR.out
        rw [mkToG_end HL.out] at hrr
        exact ⟨rfl, hrr, HT.out⟩
  · obtain rfl : n = 0 := by omega
    clear hm
    go_enter Try.func121, Try.ntmps121
    go_wp2_with fail
    go_loop [1, 5] (fun x i => x = .int .i64 k ∧ i = .int .i64 0) (fun _ _ => 0)
    case atStart => exact ⟨rfl, rfl⟩
    case round =>
      obtain ⟨rfl, rfl⟩ := hrel
      go_wp2
      go_ret
      exact ⟨ret_int (by omega), fun h => absurd h (Nat.lt_irrefl 0), Foot.refl _ _⟩
set_option maxHeartbeats 2000000 in
theorem heldString_S (k : Int) (h0 : 0 < k) (h1 : k + n ≤ 9000000) (hn : n ≤ 1048576) (hr : RowF elS w hi A n (mksG mkString 1 k n)) :
    Calls Try.prog 125 #[.slice A n c, .int .i64 k] w fun e w' => e = .returned (.int .i64 (k + (n : Int))) ∧ Below w.heap.size w w' := by
  have HR := Lib.hid hr
  clear hr
  go_enter Try.func125, Try.ntmps125
  go_wp2_with fail
  go_loopw [1, 5] (fun x i wr => ∃ q : Nat, q ≤ n ∧ i = .int .i64 q ∧ x = .int .i64 (k + (q : Int)) ∧ Below w.heap.size w wr) (fun _ i _ => n - (intOf i).toNat)
  case atStart => exact ⟨0, Nat.zero_le _, rfl, by go_num, Below.refl _ _⟩
  case round =>
    obtain ⟨q, hq, rfl, rfl, hb⟩ := hrel
    have HB := Lib.hid hb
    clear hb
    by_cases hlt : q < n
    · obtain ⟨b, o, rfl, _, hb0, hc⟩ := HR.out (by omega)
      have hk1 : (q : Int) < n := by omega
      have hk2 : (0 : Int) ≤ q := by omega
      obtain ⟨KK, hK⟩ : ∃ KK : Int, k + (q : Int) = KK := ⟨_, rfl⟩
      have hKb : 0 < KK ∧ KK ≤ 10000000 := by omega
      have hK2 : k + (1 : Nat) * (q : Int) = KK := by omega
      have c0 : wr.cell? ⟨b, o + q, none⟩ = some (.string (markT KK)) := by
        have h := hc q hlt 0 (by decide)
        rw [show o + q * elS.K + 0 = o + q from by show o + q * 1 + 0 = o + q; omega, mksG_at _ hlt, hK2, ← kc HB.out _ _ hb0] at h
        exact h
      have hb' : b < wr.heap.size := Nat.lt_of_lt_of_le hb0 HB.out.size
      rw [hK]
      have HK := Lib.hid hK
      clear hK hK2 hc
      go_wp2_with fail
      go_region_held3 (fun w' => w'.cell? ⟨b, o + q, none⟩ = some (.string (markT KK))) (first | exact r0 | go_keep)
        (first | (go_at_call 152; refine (markText_any KK hKb.1 hKb.2).mono ?_; rintro e w2 ⟨rfl, hb2⟩; have r0 := (hb2.cell (p := ⟨b, o + q, none⟩) hb').trans c0))
      go_wp2
      go_roundw
      case rel =>
        have hk' := HK.out
        exact ⟨q + 1, by omega, by go_num, congrArg (Value.int .i64) (by omega), HB.out.drew.trans (hb2.mono HB.out.size)⟩
      case measure => simp [intOf]; omega
    · obtain rfl : q = n := by omega
      go_wp2
      go_ret
      exact ⟨rfl, HB.out⟩
end
end Go.Proofs.Ytfmbadhiflaldaa
