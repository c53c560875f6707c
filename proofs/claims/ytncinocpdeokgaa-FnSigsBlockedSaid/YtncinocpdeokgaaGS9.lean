/-
  The model's SigsSend.
-/
import Derived.Test.YtncinocpdeokgaaGS8
namespace Go.Proofs.Ytncinocpdeokgaa
open Go.RowKit

set_option maxHeartbeats 4000000 in
theorem sigsSnd_any : GSnd 38 := by
  intro w hi x0 x1 x2 D n h hs
  have HA := Lib.hid h
  have HSM := Lib.hid hs
  obtain ⟨A0, n0, c0, A1, n1, c1, A2, n2, c2, hcs⟩ := tySigs_sh h
  simp only [List.cons.injEq, and_true] at hcs
  obtain ⟨rfl, rfl, rfl⟩ := hcs
  clear h hs
  obtain ⟨H, B, L⟩ := D
  have X0 := Lib.hid ((Box.new w #[.slice A0 n0 c0, .slice A1 n1 c1, .slice A2 n2 c2] 26).alloc (.cells #[.slice none 0 0, .slice none 0 0, .slice none 0 0] 26))
  have Z0 := Lib.hid (Box.new (w.alloc (.cells #[.slice A0 n0 c0, .slice A1 n1 c1, .slice A2 n2 c2] 26)) #[.slice none 0 0, .slice none 0 0, .slice none 0 0] 26)
  simp only [World.size_alloc] at Z0
  have HW0 := Lib.hid (show Below w.heap.size w ((w.alloc (.cells #[.slice A0 n0 c0, .slice A1 n1 c1, .slice A2 n2 c2] 26)).alloc (.cells #[.slice none 0 0, .slice none 0 0, .slice none 0 0] 26)) from ((Below.refl _ _).alloc (Nat.le_refl _) _).alloc (by simp only [World.size_alloc]; omega) _)
  go_enter Try.func38, Try.ntmps38
  go_wp2_with fail
  refine (sigsOk_any (Ty.below_w HA.out HW0.out)).mono ?_
  rintro e w1 ⟨rfl, hb1⟩
  have HW1 := Lib.hid (HW0.out.trans (hb1.mono HW0.out.size))
  have X1 := Lib.hid (X0.out.below hb1 X0.out.lt)
  have Z1 := Lib.hid (Z0.out.below hb1 Z0.out.lt)
  clear hb1
  by_cases hc : sigB (H, B, L) = true
  case neg =>
    have hc' : sigB (H, B, L) = false := by simpa using hc
    rw [hc']
    clear hc
    have HR := Lib.hid (show sndB (H, B, L) n = false by unfold sndB; rw [hc']; rfl)
    have z0 := Z1.out.cell 0
    have z1 := Z1.out.cell 1
    have z2 := Z1.out.cell 2
    have e0 := Z1.out.frz 0
    have e1 := Z1.out.frz 1
    have e2 := Z1.out.frz 2
    have zl := Z1.out.lt
    simp at z0 z1 z2
    go_wp2_with fail
    refine bodyPost_ret (v := .tuple #[.agg #[.slice none 0 0, .slice none 0 0, .slice none 0 0], .bool false]) (by simp [results, Try.results38, go_sem, z0, z1, z2]) rfl ⟨_, _, _, [], by rw [HR.out], by rw [snd_no HR.out]; exact nilSigs, fun b h => absurd h List.not_mem_nil, by rw [snd_no HR.out]; exact nilSmall, (((HW1.out.setCell (p := ⟨w.heap.size + 1, 0, none⟩) (by show w.heap.size ≤ w.heap.size + 1; omega) _).setCell (p := ⟨w.heap.size + 1, 1, none⟩) (by show w.heap.size ≤ w.heap.size + 1; omega) _).setCell (p := ⟨w.heap.size + 1, 2, none⟩) (by show w.heap.size ≤ w.heap.size + 1; omega) _)⟩
  rw [hc]
  go_wp2_with fail
  refine (l6In_any n 1 8 _).mono ?_
  rintro e w2 ⟨rfl, rfl⟩
  by_cases hn : inB n 1 8 = true
  case neg =>
    have hn' : inB n 1 8 = false := by simpa using hn
    rw [hn']
    clear hn
    have HR := Lib.hid (show sndB (H, B, L) n = false by unfold sndB; rw [hn']; simp)
    have z0 := Z1.out.cell 0
    have z1 := Z1.out.cell 1
    have z2 := Z1.out.cell 2
    have e0 := Z1.out.frz 0
    have e1 := Z1.out.frz 1
    have e2 := Z1.out.frz 2
    have zl := Z1.out.lt
    simp at z0 z1 z2
    go_wp2_with fail
    refine bodyPost_ret (v := .tuple #[.agg #[.slice none 0 0, .slice none 0 0, .slice none 0 0], .bool false]) (by simp [results, Try.results38, go_sem, z0, z1, z2]) rfl ⟨_, _, _, [], by rw [HR.out], by rw [snd_no HR.out]; exact nilSigs, fun b h => absurd h List.not_mem_nil, by rw [snd_no HR.out]; exact nilSmall, (((HW1.out.setCell (p := ⟨w.heap.size + 1, 0, none⟩) (by show w.heap.size ≤ w.heap.size + 1; omega) _).setCell (p := ⟨w.heap.size + 1, 1, none⟩) (by show w.heap.size ≤ w.heap.size + 1; omega) _).setCell (p := ⟨w.heap.size + 1, 2, none⟩) (by show w.heap.size ≤ w.heap.size + 1; omega) _)⟩
  rw [hn]
  have hB : sndB (H, B, L) n = true := by unfold sndB; rw [hc, hn]; rfl
  have HYES := Lib.hid (snd_yes hB)
  have HBB := Lib.hid hB
  have HL := Lib.hid (show H.length = 8 ∧ B.length = 8 ∧ L.length = 8 from ⟨(sig_iff.1 hc).1, (sig_iff.1 hc).2.1, (sig_iff.1 hc).2.2.1⟩)
  obtain ⟨k, hk, hkn, hk1⟩ := inB_nat hn
  have HKN := Lib.hid hkn
  clear hc hn hB hk1 hkn
  have p0 := X1.out.cell 0
  have p1 := X1.out.cell 1
  have p2 := X1.out.cell 2
  have pl := X1.out.lt
  simp at p0 p1 p2
  have hl1 := HW1.out.size
  go_wp2_with fail
  refine (l10Copy_any (Ty.below_w HA.out HW1.out) HL.out.1 HL.out.2.1 HL.out.2.2).mono ?_
  rintro e w3 ⟨g0, g1, g2, k0, k1, k2, rfl, hs8, hb3⟩
  have hz1 := Z1.out.lt
  have HW3 := Lib.hid (HW1.out.trans (hb3.mono HW1.out.size))
  have Z3 := Lib.hid (Z1.out.below hb3 Z1.out.lt)
  have hg0 : w.heap.size + 2 < g0 ∧ g0 < w3.heap.size := by have := hs8.b0; omega
  have hg1 : w.heap.size + 2 < g1 ∧ g1 < w3.heap.size := by have := hs8.b1; omega
  have hg2 : w.heap.size + 2 < g2 ∧ g2 < w3.heap.size := by have := hs8.b2; omega
  have HS3 := Lib.hid hs8
  clear hs8 hb3 p0 p1 p2 pl hl1
  go_wp2_with fail
  refine (l10Send_any HS3.out n k hk HKN.out).mono ?_
  rintro e w4 ⟨rfl, hs4, hf4⟩
  have HS4 := Lib.hid hs4
  have Z4 := Lib.hid (hf4.box Z3.out (by rw [List.mem_singleton]; omega))
  have HW4 := Lib.hid (HW3.out.trans (hf4.below (lo := w.heap.size) HW3.out.size (fun b hb => by rw [List.mem_singleton] at hb; omega)))
  clear hs4 hf4
  have z0 := Z4.out.cell 0
  have z1 := Z4.out.cell 1
  have z2 := Z4.out.cell 2
  have e0 := Z4.out.frz 0
  have e1 := Z4.out.frz 1
  have e2 := Z4.out.frz 2
  have zl := Z4.out.lt
  simp at z0 z1 z2
  go_wp2_with fail
  have hend := Lib.hid (((HS4.out.other ⟨w.heap.size + 1, 0, none⟩ (.slice (some ⟨g0, 0, none⟩) 8 k0) (by show w.heap.size + 1 ≠ g0; omega) (by show w.heap.size + 1 ≠ g1; omega) (by show w.heap.size + 1 ≠ g2; omega)).other ⟨w.heap.size + 1, 1, none⟩ (.slice (some ⟨g1, 0, none⟩) 8 k1) (by show w.heap.size + 1 ≠ g0; omega) (by show w.heap.size + 1 ≠ g1; omega) (by show w.heap.size + 1 ≠ g2; omega)).other ⟨w.heap.size + 1, 2, none⟩ (.slice (some ⟨g2, 0, none⟩) 8 k2) (by show w.heap.size + 1 ≠ g0; omega) (by show w.heap.size + 1 ≠ g1; omega) (by show w.heap.size + 1 ≠ g2; omega))
  refine bodyPost_ret (v := .tuple #[.agg #[.slice (some ⟨g0, 0, none⟩) 8 k0, .slice (some ⟨g1, 0, none⟩) 8 k1, .slice (some ⟨g2, 0, none⟩) 8 k2], .bool true]) (by simp [results, Try.results38, go_sem, z0, z1, z2]) rfl ⟨_, _, _, _, by rw [HBB.out], by rw [HYES.out]; exact hend.out.M k0 k1 k2, fun b hb => ?_, by rw [HYES.out]; exact hend.out.small, (((HW4.out.setCell (p := ⟨w.heap.size + 1, 0, none⟩) (by show w.heap.size ≤ w.heap.size + 1; omega) _).setCell (p := ⟨w.heap.size + 1, 1, none⟩) (by show w.heap.size ≤ w.heap.size + 1; omega) _).setCell (p := ⟨w.heap.size + 1, 2, none⟩) (by show w.heap.size ≤ w.heap.size + 1; omega) _)⟩
  have hb2 := hend.out.fp b hb
  simp only [World.size_setCell] at hb2 ⊢
  omega
end Go.Proofs.Ytncinocpdeokgaa
