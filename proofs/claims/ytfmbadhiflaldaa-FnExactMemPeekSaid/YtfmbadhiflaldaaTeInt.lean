/-
  The laws' helpers on slices of int: toS, szS (the others in TfInt).
-/
import Derived.Test.YtfmbadhiflaldaaTfInt
namespace Go.Proofs.Ytfmbadhiflaldaa
open Go.RowKit

section
variable {A : Option Addr} {n c : Nat} {B : Option Addr} {d : Nat} {w : World} {hi hi2 : Nat} {l : List Int} {fp : List Nat}
theorem szInt_S (left : Int) (hl : 0 ≤ left) (hl2 : left ≤ 1048576) (hn : n ≤ 9223372036854775807) :
    Calls Try.prog 113 #[.slice A n c, .int .i64 left] w fun e w' => ∃ z : Int, e = .returned (.int .i64 z) ∧ (0 ≤ z → n ≤ 1048576 ∧ z ≤ left) ∧ -1 ≤ z ∧ w = w' := by
  by_cases h : (n : Int) ≤ left
  · go_enter Try.func113, Try.ntmps113
    go_wp2
    go_ret
    exact ⟨_, rfl, fun _ => ⟨by omega, by omega⟩, by omega, rfl⟩
  · go_enter Try.func113, Try.ntmps113
    go_wp2
    go_ret
    exact ⟨_, rfl, fun h => by omega, by omega, rfl⟩

set_option maxHeartbeats 2000000 in
theorem toInt_S (hr : RowF elI w hi A n l) (hl : l.length = n) (hn : n ≤ 1048576) :
    Calls Try.prog 116 #[.slice A n c] w fun e w' => ∃ g, e = .returned (.slice (some ⟨g, 0, none⟩) n n) ∧ RowM elI w' [g] (some ⟨g, 0, none⟩) n l ∧ w.heap.size ≤ g ∧ g < w'.heap.size ∧ Below w.heap.size w w' := by
  have hmk : ∀ u : World, (Instr.makeSlice 24 (.int .i64 (n : Int)) (.int .i64 (n : Int))).run Try.prog u = .ok (.slice (some ⟨u.heap.size, 0, none⟩) n n) (u.alloc (.cells (madeCells #[.int .i64 0] (n * 1)) 3)) := fun u => by
    obtain ⟨i0, hi, hz0, hz1, hz2⟩ := infoInt
    have h := run_make (P := Try.prog) u 24 3 i0 _ Try.underlying24 hi hz0 .i64 .i64 (n : Int) (n : Int) (by omega) (Int.le_refl _) (by rw [hz2]; omega) (by omega)
    rw [hz1, Int.toNat_natCast] at h
    exact h
  have HR := Lib.hid hr
  have HL := Lib.hid hl
  clear hr hl
  go_enter Try.func116, Try.ntmps116
  go_wp2_with fail
  go_loopw [4] (fun i wr => ∃ k : Nat, k ≤ n ∧ i = .int .i64 k ∧ RowM elI wr [w.heap.size] (some ⟨w.heap.size, 0, none⟩) n (upG elI.z l n k) ∧ w.heap.size < wr.heap.size ∧ Below w.heap.size w wr) (fun i _ => n - (intOf i).toNat)
  case atStart =>
    refine ⟨0, Nat.zero_le _, rfl, ?_, by simp, (Below.refl _ _).alloc (Nat.le_refl _) _⟩
    rw [upG_zero]
    have h := RowM.made (E := elI) w n 3 #[.int .i64 0] rfl
    rw [show n * elI.K = n from Nat.mul_one n] at h
    exact h
  case round =>
    obtain ⟨k, hk, rfl, ho, hgT, hb⟩ := hrel
    have HO := Lib.hid ho
    have HB := Lib.hid hb
    clear hb
    by_cases hlt : k < n
    · obtain ⟨b, o, rfl, _, hb0, hc⟩ := HR.out (by omega)
      obtain ⟨gT, oT, eT, _, _, hfT, hcT⟩ := ho (by omega)
      injection eT with eT
      injection eT with eT1 eT2
      subst eT1 eT2
      have hk1 : (k : Int) < n := by omega
      have hk2 : (0 : Int) ≤ k := by omega
      have c0 : w.cell? ⟨b, o + k, none⟩ = some (.int .i64 (l.getD k elI.z)) := by
        have h := hc k hlt 0 (by decide)
        rw [show o + k * elI.K + 0 = o + k from by show o + k * 1 + 0 = o + k; omega] at h
        exact h
      rw [← kc HB.out _ _ hb0] at c0
      have HX := Lib.hid (upG_step (z := elI.z) HL.out hlt)
      have HXL := Lib.hid (upG_len (z := elI.z) HL.out hk)
      generalize l.getD k elI.z = a at c0 HX
      clear hc ho
      have HO1 := HO
      have HW1 := HB
      have HT := Lib.hid hcT
      have HFZ := Lib.hid hfT
      have t0 : wr.cell? ⟨w.heap.size, k, none⟩ = some (.int .i64 ((upG elI.z l n k).getD k elI.z)) := by
        have h := HT.out k hlt 0 (by decide)
        rw [show 0 + k * elI.K + 0 = k from by show 0 + k * 1 + 0 = k; omega] at h
        exact h
      have f0 : wr.frozen? ⟨w.heap.size, k, none⟩ = false := HFZ.out _
      generalize (upG elI.z l n k).getD k elI.z = zz at t0
      clear hcT hfT
      go_wp2
      go_roundw
      case rel =>
        refine ⟨k + 1, by omega, by go_num, ?_, by simp only [World.size_setCell]; omega, (HW1.out.setCell (Nat.le_refl _) _)⟩
        have h := HO1.out.put HXL.out k hlt a
        rw [HX.out] at h
        rw [show 0 + k * elI.K = k from by show 0 + k * 1 = k; omega] at h
        exact h
      case measure => simp [intOf]; omega
    · obtain rfl : k = n := by omega
      go_wp2
      go_ret
      refine ⟨_, rfl, ?_, Nat.le_refl _, hgT, HB.out⟩
      have h := HO.out
      rw [upG_end HL.out] at h
      exact h

end
end Go.Proofs.Ytfmbadhiflaldaa
