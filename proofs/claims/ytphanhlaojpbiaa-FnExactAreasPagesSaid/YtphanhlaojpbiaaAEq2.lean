/-
  The laws' helpers on lists of areas: eqAreaS and qdAreas compare, toAreaS makes a slice of its own.
-/
import Derived.Test.YtphanhlaojpbiaaAEq
import Derived.Deep.RegionHeld3
import Derived.Deep.RegionWith
namespace Go.Proofs.Ytphanhlaojpbiaa
open Go.RowKit

section
variable {A : Option Addr} {n c : Nat} {B : Option Addr} {d : Nat} {w : World} {l : List Ar}
set_option maxHeartbeats 1000000 in
theorem eqAreas_any (hr : RowA w A n l) (hr2 : RowA w B n l) (hn : n ≤ 9223372036854775807) :
    Calls Try.prog 44 #[.slice A n c, .slice B n d] w fun e w' => e = .returned (.bool true) ∧ Below w.heap.size w w' := by
  have HR := Lib.hid hr
  have HR2 := Lib.hid hr2
  clear hr hr2
  go_enter Try.func44, Try.ntmps44
  go_wp2_with fail
  go_loopw [5] (fun i wr => ∃ k : Nat, k ≤ n ∧ i = .int .i64 k ∧ Below w.heap.size w wr) (fun i _ => n - (intOf i).toNat)
  case atStart => exact ⟨0, Nat.zero_le _, rfl, Below.refl _ _⟩
  case round =>
    obtain ⟨k, hk, rfl, hb⟩ := hrel
    have HB := Lib.hid hb
    clear hb
    by_cases hlt : k < n
    · obtain ⟨b, o, rfl, hb0, hc⟩ := HR.out (by omega)
      obtain ⟨b2, o2, rfl, hb2, hd⟩ := HR2.out (by omega)
      have hk1 : (k : Int) < n := by omega
      have hk2 : (0 : Int) ≤ k := by omega
      obtain ⟨c0, c1, c2, c3⟩ := hc k hlt
      obtain ⟨d0, d1, d2, d3⟩ := hd k hlt
      rw [← kc HB.out _ _ hb0] at c0 c1 c2 c3
      rw [← kc HB.out _ _ hb2] at d0 d1 d2 d3
      generalize l.getD k .z = a at c0 c1 c2 c3 d0 d1 d2 d3
      have HD := Lib.hid HB.out.drew
      clear hc hd
      go_wp2_with fail
      go_region_held3 (fun w' => w'.cell? ⟨b, o + k * 4, none⟩ = some (.int .i64 a.f) ∧ w'.cell? ⟨b, o + k * 4 + 1, none⟩ = some (.int .i64 a.m) ∧ w'.cell? ⟨b, o + k * 4 + 2, none⟩ = some (.bool a.w) ∧ w'.cell? ⟨b, o + k * 4 + 3, none⟩ = some (.bool a.s) ∧
          w'.cell? ⟨b2, o2 + k * 4, none⟩ = some (.int .i64 a.f) ∧ w'.cell? ⟨b2, o2 + k * 4 + 1, none⟩ = some (.int .i64 a.m) ∧ w'.cell? ⟨b2, o2 + k * 4 + 2, none⟩ = some (.bool a.w) ∧ w'.cell? ⟨b2, o2 + k * 4 + 3, none⟩ = some (.bool a.s))
        (first | exact ⟨(HKP.out _ _ hb0).trans c0, (HKP.out _ _ hb0).trans c1, (HKP.out _ _ hb0).trans c2, (HKP.out _ _ hb0).trans c3, (HKP.out _ _ hb2).trans d0, (HKP.out _ _ hb2).trans d1, (HKP.out _ _ hb2).trans d2, (HKP.out _ _ hb2).trans d3⟩ | exact ⟨c0, c1, c2, c3, d0, d1, d2, d3⟩)
        (first
          | (go_at_call 59
             refine (eqArea_any a).mono ?_
             rintro e w1 ⟨rfl, hb1⟩
             have HW1 := Lib.hid (HD.out.trans (hb1.mono HD.out.size))
             have HKP := Lib.hid (fun (x : Nat) (i : Nat) (hx : x < w.heap.size) => hb1.cell (p := ⟨x, i, none⟩) (Nat.lt_of_lt_of_le hx HD.out.size))
             clear hb1))
      go_wp2
      go_roundw
      case rel => exact ⟨k + 1, by omega, by go_num, HW1.out⟩
      case measure => simp [intOf]; omega
    · obtain rfl : k = n := by omega
      go_wp2
      go_ret
      exact ⟨rfl, HB.out⟩

theorem qdAreas_any (hr : RowA w A n l) (hr2 : RowA w B n l) (hn : n ≤ 9223372036854775807) :
    Calls Try.prog 32 #[.slice A n c, .slice B n d] w fun e w' => e = .returned (.bool true) ∧ Below w.heap.size w w' := by
  have HR := Lib.hid hr
  have HR2 := Lib.hid hr2
  clear hr hr2
  go_enter Try.func32, Try.ntmps32
  go_wp2_with fail
  go_loopw [5] (fun i wr => ∃ k : Nat, k ≤ n ∧ i = .int .i64 k ∧ Below w.heap.size w wr) (fun i _ => n - (intOf i).toNat)
  case atStart => exact ⟨0, Nat.zero_le _, rfl, Below.refl _ _⟩
  case round =>
    obtain ⟨k, hk, rfl, hb⟩ := hrel
    have HB := Lib.hid hb
    clear hb
    by_cases hlt : k < n
    · obtain ⟨b, o, rfl, hb0, hc⟩ := HR.out (by omega)
      obtain ⟨b2, o2, rfl, hb2, hd⟩ := HR2.out (by omega)
      have hk1 : (k : Int) < n := by omega
      have hk2 : (0 : Int) ≤ k := by omega
      obtain ⟨c0, c1, c2, c3⟩ := hc k hlt
      obtain ⟨d0, d1, d2, d3⟩ := hd k hlt
      rw [← kc HB.out _ _ hb0] at c0 c1 c2 c3
      rw [← kc HB.out _ _ hb2] at d0 d1 d2 d3
      generalize l.getD k .z = a at c0 c1 c2 c3 d0 d1 d2 d3
      clear hc hd
      go_wp2_with fail
      go_region_held3 (fun w' => w'.cell? ⟨b, o + k * 4, none⟩ = some (.int .i64 a.f) ∧ w'.cell? ⟨b, o + k * 4 + 1, none⟩ = some (.int .i64 a.m) ∧ w'.cell? ⟨b, o + k * 4 + 2, none⟩ = some (.bool a.w) ∧ w'.cell? ⟨b, o + k * 4 + 3, none⟩ = some (.bool a.s) ∧
          w'.cell? ⟨b2, o2 + k * 4, none⟩ = some (.int .i64 a.f) ∧ w'.cell? ⟨b2, o2 + k * 4 + 1, none⟩ = some (.int .i64 a.m) ∧ w'.cell? ⟨b2, o2 + k * 4 + 2, none⟩ = some (.bool a.w) ∧ w'.cell? ⟨b2, o2 + k * 4 + 3, none⟩ = some (.bool a.s))
        (first | exact ⟨c0, c1, c2, c3, d0, d1, d2, d3⟩)
        (first | fail)
      go_wp2
      go_roundw
      case rel => exact ⟨k + 1, by omega, by go_num, HB.out.drew⟩
      case measure => simp [intOf]; omega
    · obtain rfl : k = n := by omega
      go_wp2
      go_ret
      exact ⟨rfl, HB.out⟩

/-- the first k areas, the others empty -/
def upTo (l : List Ar) (n k : Nat) : List Ar := l.take k ++ List.replicate (n - k) .z
theorem upTo_len {l : List Ar} {n k : Nat} (hl : l.length = n) (hk : k ≤ n) : (upTo l n k).length = n := by simp [upTo]; omega
theorem upTo_step {l : List Ar} {n k : Nat} (hl : l.length = n) (hk : k < n) : (upTo l n k).set k (l.getD k .z) = upTo l n (k + 1) := by
  unfold upTo
  rw [List.set_append_right _ _ (by rw [List.length_take]; omega), List.length_take, Nat.min_eq_left (by omega), Nat.sub_self]
  have h1 : List.replicate (n - k) Ar.z = .z :: List.replicate (n - (k + 1)) .z := by rw [show n - k = (n - (k + 1)) + 1 by omega, List.replicate_succ]
  rw [h1, List.set_cons_zero]
  have h2 : l.take (k + 1) = l.take k ++ [l.getD k .z] := by
    rw [List.take_succ_eq_append_getElem (by omega)]
    simp [List.getD_eq_getElem?_getD, List.getElem?_eq_getElem (show k < l.length by omega)]
  rw [h2, List.append_assoc]
  rfl
theorem upTo_end {l : List Ar} {n : Nat} (hl : l.length = n) : upTo l n n = l := by
  unfold upTo
  rw [Nat.sub_self, List.take_of_length_le (by omega)]
  simp
theorem upTo_zero (l : List Ar) (n : Nat) : upTo l n 0 = List.replicate n .z := by simp [upTo]

set_option maxHeartbeats 2000000 in
theorem toAreas_any (hr : RowA w A n l) (hl : l.length = n) (hn : n ≤ 1048576) :
    Calls Try.prog 43 #[.slice A n c] w fun e w' => ∃ b, e = .returned (.slice (some ⟨b, 0, none⟩) n n) ∧ OwnA w' w.heap.size (.slice (some ⟨b, 0, none⟩) n n) l ∧ Below w.heap.size w w' := by
  obtain ⟨i0, hi, hz0, hz1, hz2⟩ := info_parts infoA
  have hmk : ∀ u : World, (Instr.makeSlice 28 (.int .i64 (n : Int)) (.int .i64 (n : Int))).run Try.prog u = .ok (.slice (some ⟨u.heap.size, 0, none⟩) n n) (u.alloc (.cells (madeCells #[.int .i64 0, .int .i64 0, .bool false, .bool false] (n * 4)) 24)) := fun u => by
    have h := run_make (P := Try.prog) u 28 24 i0 _ Try.underlying28 hi hz0 .i64 .i64 (n : Int) (n : Int) (by omega) (Int.le_refl _) (by rw [hz2]; omega) (by omega)
    rw [hz1, Int.toNat_natCast] at h
    exact h
  clear hi hz0 hz1 hz2
  have HR := Lib.hid hr
  have HL := Lib.hid hl
  clear hr hl
  go_enter Try.func43, Try.ntmps43
  go_wp2_with fail
  go_loopw [4] (fun i wr => ∃ k : Nat, k ≤ n ∧ i = .int .i64 k ∧ OwnA wr w.heap.size (.slice (some ⟨w.heap.size, 0, none⟩) n n) (upTo l n k) ∧ Below w.heap.size w wr) (fun i _ => n - (intOf i).toNat)
  case atStart =>
    refine ⟨0, Nat.zero_le _, rfl, ?_, (Below.refl _ _).alloc (Nat.le_refl _) _⟩
    unfold OwnA
    rw [upTo_zero, List.length_replicate]
    exact ⟨by rw [arCs_len, List.length_replicate], .inr ⟨w.heap.size, n, _, rfl, Nat.le_refl _, heap_alloc_new w _, Nat.le_refl _, by simp only [maxLen]; omega, size_madeCells _ _, by rw [made_arCs, List.take_of_length_le (by rw [arCs_len, List.length_replicate]; exact Nat.le_refl _)]⟩⟩
  case round =>
    obtain ⟨k, hk, rfl, ho, hb⟩ := hrel
    have HO := Lib.hid ho
    have HB := Lib.hid hb
    clear ho hb
    by_cases hlt : k < n
    · obtain ⟨b, o, rfl, hb0, hc⟩ := HR.out (by omega)
      have hk1 : (k : Int) < n := by omega
      have hk2 : (0 : Int) ≤ k := by omega
      obtain ⟨c0, c1, c2, c3⟩ := hc k hlt
      rw [← kc HB.out _ _ hb0] at c0 c1 c2 c3
      have HX := Lib.hid (upTo_step HL.out hlt)
      have HXL := Lib.hid (upTo_len HL.out hk)
      generalize l.getD k .z = a at c0 c1 c2 c3 HX
      clear hc
      go_wp2_with fail
      refine (toArea_any a).mono ?_
      rintro e w1 ⟨rfl, hb1⟩
      have HW1 := Lib.hid (HB.out.trans (hb1.mono HB.out.size))
      have HO1 := Lib.hid (HO.out.below hb1)
      have hcat := fun (r : Nat) (hr4 : r < 4) => (World.ownsRow.cellAt (show w1.ownsRow w.heap.size 24 4 (.slice (some ⟨w.heap.size, 0, none⟩) n n) n (arCs (upTo l n k)) by have h := HO1.out; unfold OwnA at h; rw [HXL.out] at h; exact h) (k * 4 + r) (by omega)).trans (arCs_at _ k r (by rw [HXL.out]; exact hlt) hr4)
      have t0 := hcat 0 (by omega)
      have t1 := hcat 1 (by omega)
      have t2 := hcat 2 (by omega)
      have t3 := hcat 3 (by omega)
      have hfat := fun (r : Nat) => World.ownsRow.frozenAt (show w1.ownsRow w.heap.size 24 4 (.slice (some ⟨w.heap.size, 0, none⟩) n n) n (arCs (upTo l n k)) by have h := HO1.out; unfold OwnA at h; rw [HXL.out] at h; exact h) r
      have f0 := hfat (k * 4)
      have f1 := hfat (k * 4 + 1)
      have f2 := hfat (k * 4 + 2)
      have f3 := hfat (k * 4 + 3)
      generalize (upTo l n k).getD k .z = zz at t0 t1 t2 t3
      simp only [arC, Nat.add_zero, List.getElem?_cons_zero, List.getElem?_cons_succ] at t0 t1 t2 t3
      clear hb1 hcat hfat
      go_wp2
      go_roundw
      case rel => exact ⟨k + 1, by omega, by go_num, by rw [← HX.out]; exact HO1.out.set HXL.out k a hlt, (((HW1.out.setCell (Nat.le_refl _) _).setCell (Nat.le_refl _) _).setCell (Nat.le_refl _) _).setCell (Nat.le_refl _) _⟩
      case measure => simp [intOf]; omega
    · obtain rfl : k = n := by omega
      go_wp2
      go_ret
      exact ⟨_, rfl, by have h := HO.out; rw [upTo_end HL.out] at h; exact h, HB.out⟩
end
end Go.Proofs.Ytphanhlaojpbiaa
