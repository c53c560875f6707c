/-
  The model's SigsRun.
-/
import Derived.Test.YtncinocpdeokgaaGS5
namespace Go.Proofs.Ytncinocpdeokgaa
open Go.RowKit

theorem run_four {L : List Int} {k : Nat} (h : L.getD k 0 = 4) : runTo L (k + 1) = (runTo L k).set k 0 := by
  show (runTo L k).set k (if L.getD k 0 = 4 then 0 else L.getD k 0) = _
  rw [if_pos h]
theorem run_same {L : List Int} {k : Nat} (hL : L.length = 8) (hk : k < 8) (h : ¬ L.getD k 0 = 4) : runTo L (k + 1) = runTo L k := by
  show (runTo L k).set k (if L.getD k 0 = 4 then 0 else L.getD k 0) = _
  rw [if_neg h]
  apply getD_ext 0 (by rw [List.length_set])
  intro j _
  rw [getD_set' _ k j _ 0 (by rw [runTo_len]; omega)]
  by_cases e : j = k
  · rw [if_pos e, e, runTo_at hL (by omega), if_neg (by omega)]
  · rw [if_neg e]
set_option maxHeartbeats 4000000 in
theorem sigsRun_any : GRun 47 := by
  intro w hi x0 x1 x2 D h hs
  have HA := Lib.hid h
  have HSM := Lib.hid hs
  obtain ⟨A0, n0, c0, A1, n1, c1, A2, n2, c2, hcs⟩ := tySigs_sh h
  simp only [List.cons.injEq, and_true] at hcs
  obtain ⟨rfl, rfl, rfl⟩ := hcs
  clear h hs
  obtain ⟨H, B, L⟩ := D
  have X0 := Lib.hid ((Box.new w #[.slice A0 n0 c0, .slice A1 n1 c1, .slice A2 n2 c2] 26).alloc (.cells #[.slice none 0 0, .slice none 0 0, .slice none 0 0] 26))
  have Z0 := Lib.hid (Box.new (w.alloc (.cells #[.slice A0 n0 c0, .slice A1 n1 c1, .slice A2 n2 c2] 26)) #[.slice none 0 0, .slice none 0 0, .slice none 0 0] 26)
  simp only [World.size_alloc] at Z0
  have HW0 := Lib.hid (show Below w.heap.size w ((w.alloc (.cells #[.slice A0 n0 c0, .slice A1 n1 c1, .slice A2 n2 c2] 26)).alloc (.cells #[.slice none 0 0, .slice none 0 0, .slice none 0 0] 26)) from ((Below.refl _ _).alloc (Nat.le_refl _) _).alloc (by simp only [World.size_alloc]; omega) _)
  go_enter Try.func47, Try.ntmps47
  go_wp2_with fail
  refine (sigsOk_any (Ty.below_w HA.out HW0.out)).mono ?_
  rintro e w1 ⟨rfl, hb1⟩
  have HW1 := Lib.hid (HW0.out.trans (hb1.mono HW0.out.size))
  have X1 := Lib.hid (X0.out.below hb1 X0.out.lt)
  have Z1 := Lib.hid (Z0.out.below hb1 Z0.out.lt)
  clear hb1
  by_cases hc : sigB (H, B, L) = true
  case neg =>
    have hc' : sigB (H, B, L) = false := by simpa using hc
    rw [hc']
    clear hc
    have HR := Lib.hid (show runS (H, B, L) = sgZ by unfold runS; rw [hc']; rfl)
    have z0 := Z1.out.cell 0
    have z1 := Z1.out.cell 1
    have z2 := Z1.out.cell 2
    have e0 := Z1.out.frz 0
    have e1 := Z1.out.frz 1
    have e2 := Z1.out.frz 2
    have zl := Z1.out.lt
    simp at z0 z1 z2
    go_wp2_with fail
    refine bodyPost_ret (v := .agg #[.slice none 0 0, .slice none 0 0, .slice none 0 0]) (by simp [results, Try.results47, go_sem, z0, z1, z2]) rfl ⟨_, _, _, [], rfl, by rw [HR.out]; exact nilSigs, fun b h => absurd h List.not_mem_nil, by rw [HR.out]; exact nilSmall, (((HW1.out.setCell (p := ⟨w.heap.size + 1, 0, none⟩) (by show w.heap.size ≤ w.heap.size + 1; omega) _).setCell (p := ⟨w.heap.size + 1, 1, none⟩) (by show w.heap.size ≤ w.heap.size + 1; omega) _).setCell (p := ⟨w.heap.size + 1, 2, none⟩) (by show w.heap.size ≤ w.heap.size + 1; omega) _)⟩
  rw [hc]
  have HYES := Lib.hid (run_yes hc)
  have HL := Lib.hid (show H.length = 8 ∧ B.length = 8 ∧ L.length = 8 from ⟨(sig_iff.1 hc).1, (sig_iff.1 hc).2.1, (sig_iff.1 hc).2.2.1⟩)
  clear hc
  have p0 := X1.out.cell 0
  have p1 := X1.out.cell 1
  have p2 := X1.out.cell 2
  have pl := X1.out.lt
  simp at p0 p1 p2
  have hl1 := HW1.out.size
  go_wp2_with fail
  refine (l10Copy_any (Ty.below_w HA.out HW1.out) HL.out.1 HL.out.2.1 HL.out.2.2).mono ?_
  rintro e w3 ⟨g0, g1, g2, k0, k1, k2, rfl, hs8, hb3⟩
  have hz1 := Z1.out.lt
  have HW3 := Lib.hid (HW1.out.trans (hb3.mono HW1.out.size))
  have X3 := Lib.hid (X1.out.below hb3 X1.out.lt)
  have Z3 := Lib.hid (Z1.out.below hb3 Z1.out.lt)
  have hg0 : w.heap.size + 2 < g0 ∧ g0 < w3.heap.size := by have := hs8.b0; omega
  have hg1 : w.heap.size + 2 < g1 ∧ g1 < w3.heap.size := by have := hs8.b1; omega
  have hg2 : w.heap.size + 2 < g2 ∧ g2 < w3.heap.size := by have := hs8.b2; omega
  have O4 := Lib.hid (Box.new w3 #[.slice (some ⟨g0, 0, none⟩) 8 k0, .slice (some ⟨g1, 0, none⟩) 8 k1, .slice (some ⟨g2, 0, none⟩) 8 k2] 26)
  have X4 := Lib.hid (X3.out.alloc (.cells #[.slice (some ⟨g0, 0, none⟩) 8 k0, .slice (some ⟨g1, 0, none⟩) 8 k1, .slice (some ⟨g2, 0, none⟩) 8 k2] 26))
  have Z4 := Lib.hid (Z3.out.alloc (.cells #[.slice (some ⟨g0, 0, none⟩) 8 k0, .slice (some ⟨g1, 0, none⟩) 8 k1, .slice (some ⟨g2, 0, none⟩) 8 k2] 26))
  have S3 := Lib.hid hs8
  have S4 := Lib.hid (hs8.below ((Below.refl _ _).alloc (Nat.le_refl _) (.cells #[.slice (some ⟨g0, 0, none⟩) 8 k0, .slice (some ⟨g1, 0, none⟩) 8 k1, .slice (some ⟨g2, 0, none⟩) 8 k2] 26)))
  have HW4 := Lib.hid (HW3.out.alloc HW3.out.size (.cells #[.slice (some ⟨g0, 0, none⟩) 8 k0, .slice (some ⟨g1, 0, none⟩) 8 k1, .slice (some ⟨g2, 0, none⟩) 8 k2] 26))
  have hz3 : w.heap.size + 1 < w3.heap.size := by omega
  have hz4 : w.heap.size < w3.heap.size := by omega
  clear hs8 hb3 p0 p1 p2 pl hl1
  have HSZ := Lib.hid HW3.out.size
  go_wp2_with fail
  go_loopw [4] (fun i wr => ∃ k : Nat, k ≤ 8 ∧ i = .int .i64 k ∧ S8 wr (w1.heap.size + 2) g0 g1 g2 (H, B, runTo L k) ∧ Box wr w3.heap.size #[.slice (some ⟨g0, 0, none⟩) 8 k0, .slice (some ⟨g1, 0, none⟩) 8 k1, .slice (some ⟨g2, 0, none⟩) 8 k2] 26 ∧ Box wr (w.heap.size + 1) #[.slice none 0 0, .slice none 0 0, .slice none 0 0] 26 ∧ Below w.heap.size w wr) (fun i _ => 8 - (intOf i).toNat)
  case atStart => exact ⟨0, by omega, rfl, S4.out, O4.out, Z4.out, HW4.out⟩
  case round =>
    obtain ⟨k, hk, rfl, hs, ho, hz, hb⟩ := hrel
    have HS := Lib.hid hs
    have HO := Lib.hid ho
    have HZ := Lib.hid hz
    have HB := Lib.hid hb
    have hsz := hb.size
    clear hs ho hz hb
    by_cases hlt : k < 8
    · have hk1 : (k : Int) < 8 := by omega
      have hk2 : (0 : Int) ≤ k := by omega
      obtain ⟨s2, f2⟩ := HS.out.c2 k hlt
      dsimp only at s2
      rw [runTo_at HL.out.2.2 (by omega), if_neg (by omega)] at s2
      have o0 := HO.out.cell 0
      have o1 := HO.out.cell 1
      have o2 := HO.out.cell 2
      have ol := HO.out.lt
      simp at o0 o1 o2
      by_cases h4 : L.getD k 0 = 4
      · have HN := Lib.hid (run_four h4)
        rw [h4] at s2
        have ne1 : ¬ (w3.heap.size = g2) := by omega
        have ne2 : ¬ (g2 = w3.heap.size) := by omega
        clear h4
        go_wp2_with fail
        go_roundw
        case rel => exact ⟨k + 1, by omega, by go_num, by rw [HN.out]; exact HS.out.put2 k hlt 0, HO.out.other (a := ⟨g2, k, none⟩) (by show w3.heap.size ≠ g2; omega) _, HZ.out.other (a := ⟨g2, k, none⟩) (by show w.heap.size + 1 ≠ g2; omega) _, HB.out.setCell (p := ⟨g2, k, none⟩) (by show w.heap.size ≤ g2; omega) _⟩
        case measure => simp [intOf]; omega
      · have HN := Lib.hid (run_same HL.out.2.2 hlt h4)
        have h4' : (L.getD k 0 == 4) = false := by simpa using h4
        generalize L.getD k 0 = d at s2 h4'
        clear h4
        go_wp2_with fail
        go_roundw
        case rel => exact ⟨k + 1, by omega, by go_num, by rw [HN.out]; exact HS.out, HO.out, HZ.out, HB.out⟩
        case measure => simp [intOf]; omega
    · obtain rfl : k = 8 := by omega
      have o0 := HO.out.cell 0
      have o1 := HO.out.cell 1
      have o2 := HO.out.cell 2
      have q0 := HO.out.frz 0
      have q1 := HO.out.frz 1
      have q2 := HO.out.frz 2
      have ol := HO.out.lt
      simp at o0 o1 o2
      have z0 := HZ.out.cell 0
      have z1 := HZ.out.cell 1
      have z2 := HZ.out.cell 2
      have e0 := HZ.out.frz 0
      have e1 := HZ.out.frz 1
      have e2 := HZ.out.frz 2
      have zl := HZ.out.lt
      simp at z0 z1 z2
      go_wp2_with fail
      have hend := Lib.hid (((HS.out.other ⟨w.heap.size + 1, 0, none⟩ (.slice (some ⟨g0, 0, none⟩) 8 k0) (by show w.heap.size + 1 ≠ g0; omega) (by show w.heap.size + 1 ≠ g1; omega) (by show w.heap.size + 1 ≠ g2; omega)).other ⟨w.heap.size + 1, 1, none⟩ (.slice (some ⟨g1, 0, none⟩) 8 k1) (by show w.heap.size + 1 ≠ g0; omega) (by show w.heap.size + 1 ≠ g1; omega) (by show w.heap.size + 1 ≠ g2; omega)).other ⟨w.heap.size + 1, 2, none⟩ (.slice (some ⟨g2, 0, none⟩) 8 k2) (by show w.heap.size + 1 ≠ g0; omega) (by show w.heap.size + 1 ≠ g1; omega) (by show w.heap.size + 1 ≠ g2; omega))
      refine bodyPost_ret (v := .agg #[.slice (some ⟨g0, 0, none⟩) 8 k0, .slice (some ⟨g1, 0, none⟩) 8 k1, .slice (some ⟨g2, 0, none⟩) 8 k2]) (by simp [results, Try.results47, go_sem, z0, z1, z2]) rfl ⟨_, _, _, _, rfl, by rw [HYES.out]; exact hend.out.M k0 k1 k2, fun b hb => ?_, by rw [HYES.out]; exact hend.out.small, (((HB.out.setCell (p := ⟨w.heap.size + 1, 0, none⟩) (by show w.heap.size ≤ w.heap.size + 1; omega) _).setCell (p := ⟨w.heap.size + 1, 1, none⟩) (by show w.heap.size ≤ w.heap.size + 1; omega) _).setCell (p := ⟨w.heap.size + 1, 2, none⟩) (by show w.heap.size ≤ w.heap.size + 1; omega) _)⟩
      have hb2 := hend.out.fp b hb
      simp only [World.size_setCell] at hb2 ⊢
      omega
end Go.Proofs.Ytncinocpdeokgaa
