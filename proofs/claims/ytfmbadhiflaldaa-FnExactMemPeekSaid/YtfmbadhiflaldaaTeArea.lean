/-
  The laws' helpers on slices of Area: toS, eqS, szS, markS, heldS.
-/
import Derived.Test.YtfmbadhiflaldaaTKit
import Derived.Test.YtfmbadhiflaldaaReg
namespace Go.Proofs.Ytfmbadhiflaldaa
open Go.RowKit

theorem infoArea : ∃ i, Try.prog.info? 52 = some i ∧ i.zero = some (.agg #[.int .i64 0, .int .i64 0, .bool false, .bool false]) ∧ i.size = 4 ∧ i.bytes = 24 := info_parts (by kernel_rfl : (Try.prog.info? 52).map (fun i => (i.zero, i.size, i.bytes)) = some (some (.agg #[.int .i64 0, .int .i64 0, .bool false, .bool false]), 4, 24))

structure EArea where
  f0 : Int
  f1 : Int
  f2 : Bool
  f3 : Bool
def elArea : El EArea := ⟨4, ⟨0, 0, false, false⟩, fun a => [.int .i64 a.f0, .int .i64 a.f1, .bool a.f2, .bool a.f3], fun _ => rfl⟩
section
variable {A : Option Addr} {n c : Nat} {B : Option Addr} {d : Nat} {w : World} {hi hi2 : Nat} {l : List EArea} {fp : List Nat}
theorem toArea_t (a : EArea) : Calls Try.prog 42 #[.agg #[.int .i64 a.f0, .int .i64 a.f1, .bool a.f2, .bool a.f3]] w fun e w' => e = .returned (.agg #[.int .i64 a.f0, .int .i64 a.f1, .bool a.f2, .bool a.f3]) ∧ Below w.heap.size w w' := by
  obtain ⟨f0, f1, f2, f3⟩ := a
  dsimp only
  go_enter Try.func42, Try.ntmps42
  go_wp2_with fail
  refine bodyPost_ret (v := .agg #[.int .i64 f0, .int .i64 f1, .bool f2, .bool f3]) (by simp [results, Try.results42, go_sem]) rfl ⟨rfl, ?_⟩
  exact (((Below.refl _ _).alloc (Nat.le_refl _) _).alloc (by rw [World.size_alloc]; omega) _).alloc (by simp only [World.size_alloc]; omega) _
theorem eqArea_t (a : EArea) : Calls Try.prog 169 #[.agg #[.int .i64 a.f0, .int .i64 a.f1, .bool a.f2, .bool a.f3], .agg #[.int .i64 a.f0, .int .i64 a.f1, .bool a.f2, .bool a.f3]] w fun e w' => e = .returned (.bool true) ∧ Below w.heap.size w w' := by
  obtain ⟨f0, f1, f2, f3⟩ := a
  dsimp only
  go_enter Try.func169, Try.ntmps169
  go_wp2_with fail
  go_ret
  exact ⟨rfl, ((Below.refl _ _).alloc (Nat.le_refl _) _).alloc (by rw [World.size_alloc]; omega) _⟩

theorem szArea_S (left : Int) (hl : 0 ≤ left) (hl2 : left ≤ 1048576) (hn : n ≤ 9223372036854775807) :
    Calls Try.prog 146 #[.slice A n c, .int .i64 left] w fun e w' => ∃ z : Int, e = .returned (.int .i64 z) ∧ (0 ≤ z → n ≤ 1048576 ∧ z ≤ left) ∧ -1 ≤ z ∧ w = w' := by
  by_cases h : (n : Int) ≤ left
  · go_enter Try.func146, Try.ntmps146
    go_wp2
    go_ret
    exact ⟨_, rfl, fun _ => ⟨by omega, by omega⟩, by omega, rfl⟩
  · go_enter Try.func146, Try.ntmps146
    go_wp2
    go_ret
    exact ⟨_, rfl, fun h => by omega, by omega, rfl⟩

set_option maxHeartbeats 1000000 in
theorem eqArea_S (hr : RowF elArea w hi A n l) (hr2 : RowF elArea w hi2 B n l) (hn : n ≤ 9223372036854775807) :
    Calls Try.prog 150 #[.slice A n c, .slice B n d] w fun e w' => e = .returned (.bool true) ∧ Below w.heap.size w w' := by
  have HR := Lib.hid hr
  have HR2 := Lib.hid hr2
  clear hr hr2
  go_enter Try.func150, Try.ntmps150
  go_wp2_with fail
  go_loopw [5] (fun i wr => ∃ k : Nat, k ≤ n ∧ i = .int .i64 k ∧ Below w.heap.size w wr) (fun i _ => n - (intOf i).toNat)
  case atStart => exact ⟨0, Nat.zero_le _, rfl, Below.refl _ _⟩
  case round =>
    obtain ⟨k, hk, rfl, hb⟩ := hrel
    have HB := Lib.hid hb
    clear hb
    by_cases hlt : k < n
    · obtain ⟨b, o, rfl, _, hb0, hc⟩ := HR.out (by omega)
      obtain ⟨b2, o2, rfl, _, hb2, hd⟩ := HR2.out (by omega)
      have hk1 : (k : Int) < n := by omega
      have hk2 : (0 : Int) ≤ k := by omega
      have c0 : w.cell? ⟨b, o + k * 4, none⟩ = some (.int .i64 (l.getD k elArea.z).f0) := by
        have h := hc k hlt 0 (by decide)
        rw [show o + k * elArea.K + 0 = o + k * 4 from by show o + k * 4 + 0 = o + k * 4; omega] at h
        exact h
      have c1 : w.cell? ⟨b, o + k * 4 + 1, none⟩ = some (.int .i64 (l.getD k elArea.z).f1) := by
        have h := hc k hlt 1 (by decide)
        rw [show o + k * elArea.K + 1 = o + k * 4 + 1 from by show o + k * 4 + 1 = o + k * 4 + 1; omega] at h
        exact h
      have c2 : w.cell? ⟨b, o + k * 4 + 2, none⟩ = some (.bool (l.getD k elArea.z).f2) := by
        have h := hc k hlt 2 (by decide)
        rw [show o + k * elArea.K + 2 = o + k * 4 + 2 from by show o + k * 4 + 2 = o + k * 4 + 2; omega] at h
        exact h
      have c3 : w.cell? ⟨b, o + k * 4 + 3, none⟩ = some (.bool (l.getD k elArea.z).f3) := by
        have h := hc k hlt 3 (by decide)
        rw [show o + k * elArea.K + 3 = o + k * 4 + 3 from by show o + k * 4 + 3 = o + k * 4 + 3; omega] at h
        exact h
      have d0 : w.cell? ⟨b2, o2 + k * 4, none⟩ = some (.int .i64 (l.getD k elArea.z).f0) := by
        have h := hd k hlt 0 (by decide)
        rw [show o2 + k * elArea.K + 0 = o2 + k * 4 from by show o2 + k * 4 + 0 = o2 + k * 4; omega] at h
        exact h
      have d1 : w.cell? ⟨b2, o2 + k * 4 + 1, none⟩ = some (.int .i64 (l.getD k elArea.z).f1) := by
        have h := hd k hlt 1 (by decide)
        rw [show o2 + k * elArea.K + 1 = o2 + k * 4 + 1 from by show o2 + k * 4 + 1 = o2 + k * 4 + 1; omega] at h
        exact h
      have d2 : w.cell? ⟨b2, o2 + k * 4 + 2, none⟩ = some (.bool (l.getD k elArea.z).f2) := by
        have h := hd k hlt 2 (by decide)
        rw [show o2 + k * elArea.K + 2 = o2 + k * 4 + 2 from by show o2 + k * 4 + 2 = o2 + k * 4 + 2; omega] at h
        exact h
      have d3 : w.cell? ⟨b2, o2 + k * 4 + 3, none⟩ = some (.bool (l.getD k elArea.z).f3) := by
        have h := hd k hlt 3 (by decide)
        rw [show o2 + k * elArea.K + 3 = o2 + k * 4 + 3 from by show o2 + k * 4 + 3 = o2 + k * 4 + 3; omega] at h
        exact h
      rw [← kc HB.out _ _ hb0] at c0 c1 c2 c3
      rw [← kc HB.out _ _ hb2] at d0 d1 d2 d3
      generalize l.getD k elArea.z = a at c0 c1 c2 c3 d0 d1 d2 d3
      clear hc hd
      have HD := Lib.hid HB.out.drew
      go_wp2_with fail
      go_region_held3 (fun w' => w'.cell? ⟨b, o + k * 4, none⟩ = some (.int .i64 a.f0) ∧ w'.cell? ⟨b, o + k * 4 + 1, none⟩ = some (.int .i64 a.f1) ∧ w'.cell? ⟨b, o + k * 4 + 2, none⟩ = some (.bool a.f2) ∧ w'.cell? ⟨b, o + k * 4 + 3, none⟩ = some (.bool a.f3) ∧ w'.cell? ⟨b2, o2 + k * 4, none⟩ = some (.int .i64 a.f0) ∧ w'.cell? ⟨b2, o2 + k * 4 + 1, none⟩ = some (.int .i64 a.f1) ∧ w'.cell? ⟨b2, o2 + k * 4 + 2, none⟩ = some (.bool a.f2) ∧ w'.cell? ⟨b2, o2 + k * 4 + 3, none⟩ = some (.bool a.f3))
        (first | exact ⟨(HKP.out _ _ hb0).trans c0, (HKP.out _ _ hb0).trans c1, (HKP.out _ _ hb0).trans c2, (HKP.out _ _ hb0).trans c3, (HKP.out _ _ hb2).trans d0, (HKP.out _ _ hb2).trans d1, (HKP.out _ _ hb2).trans d2, (HKP.out _ _ hb2).trans d3⟩ | exact ⟨c0, c1, c2, c3, d0, d1, d2, d3⟩)
        (first
          | (go_at_call 169
             refine (eqArea_t a).mono ?_
             rintro e w1 ⟨rfl, hb1⟩
             have HW1 := Lib.hid (HD.out.trans (hb1.mono HD.out.size))
             have HKP := Lib.hid (fun (x : Nat) (i : Nat) (hx : x < w.heap.size) => hb1.cell (p := ⟨x, i, none⟩) (Nat.lt_of_lt_of_le hx HD.out.size))
             clear hb1))
      go_wp2
      go_roundw
      case rel => exact ⟨k + 1, by omega, by go_num, HW1.out⟩
      case measure => simp [intOf]; omega
    · obtain rfl : k = n := by omega
      go_wp2
      go_ret
      exact ⟨rfl, HB.out⟩

set_option maxHeartbeats 2000000 in
theorem toArea_S (hr : RowF elArea w hi A n l) (hl : l.length = n) (hn : n ≤ 1048576) :
    Calls Try.prog 148 #[.slice A n c] w fun e w' => ∃ g, e = .returned (.slice (some ⟨g, 0, none⟩) n n) ∧ RowM elArea w' [g] (some ⟨g, 0, none⟩) n l ∧ w.heap.size ≤ g ∧ g < w'.heap.size ∧ Below w.heap.size w w' := by
  have hmk : ∀ u : World, (Instr.makeSlice 42 (.int .i64 (n : Int)) (.int .i64 (n : Int))).run Try.prog u = .ok (.slice (some ⟨u.heap.size, 0, none⟩) n n) (u.alloc (.cells (madeCells #[.int .i64 0, .int .i64 0, .bool false, .bool false] (n * 4)) 52)) := fun u => by
    obtain ⟨i0, hi, hz0, hz1, hz2⟩ := infoArea
    have h := run_make (P := Try.prog) u 42 52 i0 _ Try.underlying42 hi hz0 .i64 .i64 (n : Int) (n : Int) (by omega) (Int.le_refl _) (by rw [hz2]; omega) (by omega)
    rw [hz1, Int.toNat_natCast] at h
    exact h
  have HR := Lib.hid hr
  have HL := Lib.hid hl
  clear hr hl
  go_enter Try.func148, Try.ntmps148
  go_wp2_with fail
  go_loopw [4] (fun i wr => ∃ k : Nat, k ≤ n ∧ i = .int .i64 k ∧ RowM elArea wr [w.heap.size] (some ⟨w.heap.size, 0, none⟩) n (upG elArea.z l n k) ∧ w.heap.size < wr.heap.size ∧ Below w.heap.size w wr) (fun i _ => n - (intOf i).toNat)
  case atStart =>
    refine ⟨0, Nat.zero_le _, rfl, ?_, by simp, (Below.refl _ _).alloc (Nat.le_refl _) _⟩
    rw [upG_zero]
    exact RowM.made (E := elArea) w n _ #[.int .i64 0, .int .i64 0, .bool false, .bool false] rfl
  case round =>
    obtain ⟨k, hk, rfl, ho, hgT, hb⟩ := hrel
    have HO := Lib.hid ho
    have HB := Lib.hid hb
    clear hb
    by_cases hlt : k < n
    · obtain ⟨b, o, rfl, _, hb0, hc⟩ := HR.out (by omega)
      obtain ⟨gT, oT, eT, _, _, hfT, hcT⟩ := ho (by omega)
      injection eT with eT
      injection eT with eT1 eT2
      subst eT1 eT2
      have hk1 : (k : Int) < n := by omega
      have hk2 : (0 : Int) ≤ k := by omega
      have c0 : w.cell? ⟨b, o + k * 4, none⟩ = some (.int .i64 (l.getD k elArea.z).f0) := by
        have h := hc k hlt 0 (by decide)
        rw [show o + k * elArea.K + 0 = o + k * 4 from by show o + k * 4 + 0 = o + k * 4; omega] at h
        exact h
      have c1 : w.cell? ⟨b, o + k * 4 + 1, none⟩ = some (.int .i64 (l.getD k elArea.z).f1) := by
        have h := hc k hlt 1 (by decide)
        rw [show o + k * elArea.K + 1 = o + k * 4 + 1 from by show o + k * 4 + 1 = o + k * 4 + 1; omega] at h
        exact h
      have c2 : w.cell? ⟨b, o + k * 4 + 2, none⟩ = some (.bool (l.getD k elArea.z).f2) := by
        have h := hc k hlt 2 (by decide)
        rw [show o + k * elArea.K + 2 = o + k * 4 + 2 from by show o + k * 4 + 2 = o + k * 4 + 2; omega] at h
        exact h
      have c3 : w.cell? ⟨b, o + k * 4 + 3, none⟩ = some (.bool (l.getD k elArea.z).f3) := by
        have h := hc k hlt 3 (by decide)
        rw [show o + k * elArea.K + 3 = o + k * 4 + 3 from by show o + k * 4 + 3 = o + k * 4 + 3; omega] at h
        exact h
      rw [← kc HB.out _ _ hb0] at c0 c1 c2 c3
      have HX := Lib.hid (upG_step (z := elArea.z) HL.out hlt)
      have HXL := Lib.hid (upG_len (z := elArea.z) HL.out hk)
      generalize l.getD k elArea.z = a at c0 c1 c2 c3 HX
      clear hc ho
      go_wp2_with fail
      refine (toArea_t a).mono ?_
      rintro e w1 ⟨rfl, hb1⟩
      have HW1 := Lib.hid (HB.out.trans (hb1.mono HB.out.size))
      have HO1 := Lib.hid (HO.out.frame fun x hx => hb1.block x (by rw [List.mem_singleton] at hx; omega))
      have hcT' : ∀ q, w1.cell? ⟨w.heap.size, q, none⟩ = wr.cell? ⟨w.heap.size, q, none⟩ := fun q => hb1.cell (p := ⟨w.heap.size, q, none⟩) hgT
      have HT := Lib.hid (fun (j : Nat) (hj : j < n) (r : Nat) (hr : r < elArea.K) => (hcT' _).trans (hcT j hj r hr))
      have HFZ := Lib.hid (fun (q : Nat) => (hb1.frozen (p := ⟨w.heap.size, q, none⟩) hgT).trans (hfT q))
      have lt1 : w.heap.size < w1.heap.size := Nat.lt_of_lt_of_le hgT hb1.size
      have t0 : w1.cell? ⟨w.heap.size, k * 4, none⟩ = some (.int .i64 ((upG elArea.z l n k).getD k elArea.z).f0) := by
        have h := HT.out k hlt 0 (by decide)
        rw [show 0 + k * elArea.K + 0 = k * 4 from by show 0 + k * 4 + 0 = k * 4; omega] at h
        exact h
      have f0 : w1.frozen? ⟨w.heap.size, k * 4, none⟩ = false := HFZ.out _
      have t1 : w1.cell? ⟨w.heap.size, k * 4 + 1, none⟩ = some (.int .i64 ((upG elArea.z l n k).getD k elArea.z).f1) := by
        have h := HT.out k hlt 1 (by decide)
        rw [show 0 + k * elArea.K + 1 = k * 4 + 1 from by show 0 + k * 4 + 1 = k * 4 + 1; omega] at h
        exact h
      have f1 : w1.frozen? ⟨w.heap.size, k * 4 + 1, none⟩ = false := HFZ.out _
      have t2 : w1.cell? ⟨w.heap.size, k * 4 + 2, none⟩ = some (.bool ((upG elArea.z l n k).getD k elArea.z).f2) := by
        have h := HT.out k hlt 2 (by decide)
        rw [show 0 + k * elArea.K + 2 = k * 4 + 2 from by show 0 + k * 4 + 2 = k * 4 + 2; omega] at h
        exact h
      have f2 : w1.frozen? ⟨w.heap.size, k * 4 + 2, none⟩ = false := HFZ.out _
      have t3 : w1.cell? ⟨w.heap.size, k * 4 + 3, none⟩ = some (.bool ((upG elArea.z l n k).getD k elArea.z).f3) := by
        have h := HT.out k hlt 3 (by decide)
        rw [show 0 + k * elArea.K + 3 = k * 4 + 3 from by show 0 + k * 4 + 3 = k * 4 + 3; omega] at h
        exact h
      have f3 : w1.frozen? ⟨w.heap.size, k * 4 + 3, none⟩ = false := HFZ.out _
      generalize (upG elArea.z l n k).getD k elArea.z = zz at t0 t1 t2 t3
      clear hb1 hcT hfT hcT' c0 c1 c2 c3
      go_wp2
      go_roundw
      case rel =>
        refine ⟨k + 1, by omega, by go_num, ?_, by simp only [World.size_setCell]; omega, ((((HW1.out.setCell (Nat.le_refl _) _).setCell (Nat.le_refl _) _).setCell (Nat.le_refl _) _).setCell (Nat.le_refl _) _)⟩
        have h := HO1.out.put HXL.out k hlt a
        rw [HX.out] at h
        rw [show 0 + k * elArea.K = k * 4 from by show 0 + k * 4 = k * 4; omega] at h
        exact h
      case measure => simp [intOf]; omega
    · obtain rfl : k = n := by omega
      go_wp2
      go_ret
      refine ⟨_, rfl, ?_, Nat.le_refl _, hgT, HB.out⟩
      have h := HO.out
      rw [upG_end HL.out] at h
      exact h

def mkArea : Int → EArea := fun k => ⟨k, k + 1, (k + 1 + 1) % 3 == 0, (k + 1 + 1 + 1) % 3 == 0⟩
set_option maxHeartbeats 2000000 in
theorem markArea_S (k : Int) (h0 : 0 < k) (h1 : k ≤ 1000000000) (hl : l.length = n) (hn : n ≤ 1048576) (hm : RowM elArea w fp A n l) :
    Calls Try.prog 123 #[.slice A n c, .int .i64 k] w fun e w' => e = .returned (.int .i64 (k + 4 * (n : Int))) ∧ RowM elArea w' fp A n (mksG mkArea 4 k n) ∧ Foot w w' fp := by
  have HL := Lib.hid hl
  have HM := Lib.hid hm
  clear hl
  by_cases hz : 0 < n
  · obtain ⟨b, o, rfl, rfl, hb0, _, _⟩ := hm hz
    have HZ := Lib.hid hz
    clear hz hm
    go_enter Try.func123, Try.ntmps123
    go_wp2_with fail
    go_loopw [1, 5] (fun x i wr => ∃ q : Nat, q ≤ n ∧ i = .int .i64 q ∧ x = .int .i64 (k + 4 * (q : Int)) ∧ RowM elArea wr [b] (some ⟨b, o, none⟩) n (mkToG mkArea 4 k l q) ∧ Foot w wr [b]) (fun _ i _ => n - (intOf i).toNat)
    case atStart => exact ⟨0, Nat.zero_le _, rfl, by go_num, by rw [mkToG_zero]; exact HM.out, Foot.refl _ _⟩
    case round =>
      obtain ⟨q, hq, rfl, rfl, hr, ht⟩ := hrel
      have HRR := Lib.hid hr
      have HT := Lib.hid ht
      by_cases hlt : q < n
      · obtain ⟨b2, o2, e2, _, hbl, hf, hc⟩ := hr (by omega)
        injection e2 with e2
        injection e2 with e3 e4
        subst e3 e4
        have hk1 : (q : Int) < n := by omega
        have hk2 : (0 : Int) ≤ q := by omega
        have HX := Lib.hid (mkToG_step elArea.z (mk := mkArea) (s := 4) (k := k) HL.out hlt)
        have HXL := Lib.hid (mkToG_len (mk := mkArea) (s := 4) (k := k) HL.out hq)
        have t0 : wr.cell? ⟨b, o + q * 4, none⟩ = some (.int .i64 ((mkToG mkArea 4 k l q).getD q elArea.z).f0) := by
          have h := hc q hlt 0 (by decide)
          rw [show o + q * elArea.K + 0 = o + q * 4 from by show o + q * 4 + 0 = o + q * 4; omega] at h
          exact h
        have f0 : wr.frozen? ⟨b, o + q * 4, none⟩ = false := hf _
        have t1 : wr.cell? ⟨b, o + q * 4 + 1, none⟩ = some (.int .i64 ((mkToG mkArea 4 k l q).getD q elArea.z).f1) := by
          have h := hc q hlt 1 (by decide)
          rw [show o + q * elArea.K + 1 = o + q * 4 + 1 from by show o + q * 4 + 1 = o + q * 4 + 1; omega] at h
          exact h
        have f1 : wr.frozen? ⟨b, o + q * 4 + 1, none⟩ = false := hf _
        have t2 : wr.cell? ⟨b, o + q * 4 + 2, none⟩ = some (.bool ((mkToG mkArea 4 k l q).getD q elArea.z).f2) := by
          have h := hc q hlt 2 (by decide)
          rw [show o + q * elArea.K + 2 = o + q * 4 + 2 from by show o + q * 4 + 2 = o + q * 4 + 2; omega] at h
          exact h
        have f2 : wr.frozen? ⟨b, o + q * 4 + 2, none⟩ = false := hf _
        have t3 : wr.cell? ⟨b, o + q * 4 + 3, none⟩ = some (.bool ((mkToG mkArea 4 k l q).getD q elArea.z).f3) := by
          have h := hc q hlt 3 (by decide)
          rw [show o + q * elArea.K + 3 = o + q * 4 + 3 from by show o + q * 4 + 3 = o + q * 4 + 3; omega] at h
          exact h
        have f3 : wr.frozen? ⟨b, o + q * 4 + 3, none⟩ = false := hf _
        generalize (mkToG mkArea 4 k l q).getD q elArea.z = zz at t0 t1 t2 t3
        clear hc hf hr ht
        obtain ⟨KK, hK⟩ : ∃ KK : Int, k + 4 * (q : Int) = KK := ⟨_, rfl⟩
        have hKb : 0 < KK ∧ KK ≤ 1010000000 := by omega
        have hK2 : k + (4 : Nat) * (q : Int) = KK := by omega
        rw [hK2] at HX
        rw [hK]
        have HK := Lib.hid hK
        clear hK hK2
        go_wp2
        go_roundw
        case rel =>
          have h := HRR.out.put HXL.out q hlt (mkArea KK)
          rw [HX.out] at h
          rw [show o + q * elArea.K = o + q * 4 from by show o + q * 4 = o + q * 4; omega] at h
          have hk' := HK.out
          refine ⟨q + 1, by omega, by go_num, ?_, h, ((((HT.out.set (List.mem_singleton.2 rfl) _ _).set (List.mem_singleton.2 rfl) _ _).set (List.mem_singleton.2 rfl) _ _).set (List.mem_singleton.2 rfl) _ _)⟩
          exact congrArg (Value.int .i64) (by omega)
        case measure => simp [intOf]; omega
      · obtain rfl : q = n := by omega
        clear hr ht
        go_wp2
        go_ret
        have hrr := HRR.out
        rw [mkToG_end HL.out] at hrr
        exact ⟨rfl, hrr, HT.out⟩
  · obtain rfl : n = 0 := by omega
    clear hm
    go_enter Try.func123, Try.ntmps123
    go_wp2_with fail
    go_loop [1, 5] (fun x i => x = .int .i64 k ∧ i = .int .i64 0) (fun _ _ => 0)
    case atStart => exact ⟨rfl, rfl⟩
    case round =>
      obtain ⟨rfl, rfl⟩ := hrel
      go_wp2
      go_ret
      exact ⟨ret_int (by omega), fun h => absurd h (Nat.lt_irrefl 0), Foot.refl _ _⟩

set_option maxHeartbeats 2000000 in
theorem heldArea_S (k : Int) (h0 : 0 < k) (h1 : k ≤ 1000000000) (hn : n ≤ 1048576) (hr : RowF elArea w hi A n (mksG mkArea 4 k n)) :
    Calls Try.prog 127 #[.slice A n c, .int .i64 k] w fun e w' => e = .returned (.int .i64 (k + 4 * (n : Int))) ∧ Below w.heap.size w w' := by
  have HR := Lib.hid hr
  clear hr
  go_enter Try.func127, Try.ntmps127
  go_wp2_with fail
  go_loopw [1, 5] (fun x i wr => ∃ q : Nat, q ≤ n ∧ i = .int .i64 q ∧ x = .int .i64 (k + 4 * (q : Int)) ∧ Below w.heap.size w wr) (fun _ i _ => n - (intOf i).toNat)
  case atStart => exact ⟨0, Nat.zero_le _, rfl, by go_num, Below.refl _ _⟩
  case round =>
    obtain ⟨q, hq, rfl, rfl, hb⟩ := hrel
    have HB := Lib.hid hb
    clear hb
    by_cases hlt : q < n
    · obtain ⟨b, o, rfl, _, hb0, hc⟩ := HR.out (by omega)
      have hk1 : (q : Int) < n := by omega
      have hk2 : (0 : Int) ≤ q := by omega
      obtain ⟨KK, hK⟩ : ∃ KK : Int, k + 4 * (q : Int) = KK := ⟨_, rfl⟩
      have hKb : 0 < KK ∧ KK ≤ 1010000000 := by omega
      have hK2 : k + (4 : Nat) * (q : Int) = KK := by omega
      have c0 : wr.cell? ⟨b, o + q * 4, none⟩ = some (.int .i64 (KK)) := by
        have h := hc q hlt 0 (by decide)
        rw [show o + q * elArea.K + 0 = o + q * 4 from by show o + q * 4 + 0 = o + q * 4; omega, mksG_at _ hlt, hK2, ← kc HB.out _ _ hb0] at h
        exact h
      have c1 : wr.cell? ⟨b, o + q * 4 + 1, none⟩ = some (.int .i64 (KK + 1)) := by
        have h := hc q hlt 1 (by decide)
        rw [show o + q * elArea.K + 1 = o + q * 4 + 1 from by show o + q * 4 + 1 = o + q * 4 + 1; omega, mksG_at _ hlt, hK2, ← kc HB.out _ _ hb0] at h
        exact h
      have c2 : wr.cell? ⟨b, o + q * 4 + 2, none⟩ = some (.bool ((KK + 1 + 1) % 3 == 0)) := by
        have h := hc q hlt 2 (by decide)
        rw [show o + q * elArea.K + 2 = o + q * 4 + 2 from by show o + q * 4 + 2 = o + q * 4 + 2; omega, mksG_at _ hlt, hK2, ← kc HB.out _ _ hb0] at h
        exact h
      have c3 : wr.cell? ⟨b, o + q * 4 + 3, none⟩ = some (.bool ((KK + 1 + 1 + 1) % 3 == 0)) := by
        have h := hc q hlt 3 (by decide)
        rw [show o + q * elArea.K + 3 = o + q * 4 + 3 from by show o + q * 4 + 3 = o + q * 4 + 3; omega, mksG_at _ hlt, hK2, ← kc HB.out _ _ hb0] at h
        exact h
      rw [hK]
      have HK := Lib.hid hK
      clear hK hK2 hc
      go_wp2
      go_roundw
      case rel =>
        have hk' := HK.out
        exact ⟨q + 1, by omega, by go_num, congrArg (Value.int .i64) (by omega), HB.out⟩
      case measure => simp [intOf]; omega
    · obtain rfl : q = n := by omega
      go_wp2
      go_ret
      exact ⟨rfl, HB.out⟩
end
end Go.Proofs.Ytfmbadhiflaldaa
