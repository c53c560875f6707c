/-
  The model's SigsFork.
-/
import Derived.Test.YtncinocpdeokgaaGS3
namespace Go.Proofs.Ytncinocpdeokgaa
open Go.RowKit

theorem S8.new0 {w : World} {lo g0 g1 g2 : Nat} {D : Sg} (h : S8 w lo g0 g1 g2 D) (hlo : lo ≤ w.heap.size) : S8 (w.alloc (.cells (madeCells #[.bool false] 8) 4)) lo w.heap.size g1 g2 (List.replicate 8 false, D.2.1, D.2.2) :=
  have h' := h.below ((Below.refl _ _).alloc (Nat.le_refl _) (.cells (madeCells #[.bool false] 8) 4))
  ⟨mkB8 w, h'.r1, h'.r2, rfl, h.l1, h.l2, ⟨hlo, by simp⟩, h'.b1, h'.b2, by have := h.b1; omega, by have := h.b2; omega, h.n12⟩
set_option maxHeartbeats 4000000 in
theorem sigsFrk_any : GFrk 43 := by
  intro w hi x0 x1 x2 D h hs
  have HA := Lib.hid h
  have HSM := Lib.hid hs
  obtain ⟨A0, n0, c0, A1, n1, c1, A2, n2, c2, hcs⟩ := tySigs_sh h
  simp only [List.cons.injEq, and_true] at hcs
  obtain ⟨rfl, rfl, rfl⟩ := hcs
  clear h hs
  obtain ⟨H, B, L⟩ := D
  have X0 := Lib.hid ((Box.new w #[.slice A0 n0 c0, .slice A1 n1 c1, .slice A2 n2 c2] 26).alloc (.cells #[.slice none 0 0, .slice none 0 0, .slice none 0 0] 26))
  have Z0 := Lib.hid (Box.new (w.alloc (.cells #[.slice A0 n0 c0, .slice A1 n1 c1, .slice A2 n2 c2] 26)) #[.slice none 0 0, .slice none 0 0, .slice none 0 0] 26)
  simp only [World.size_alloc] at Z0
  have HW0 := Lib.hid (show Below w.heap.size w ((w.alloc (.cells #[.slice A0 n0 c0, .slice A1 n1 c1, .slice A2 n2 c2] 26)).alloc (.cells #[.slice none 0 0, .slice none 0 0, .slice none 0 0] 26)) from ((Below.refl _ _).alloc (Nat.le_refl _) _).alloc (by simp only [World.size_alloc]; omega) _)
  have mB := m8B
  go_enter Try.func43, Try.ntmps43
  go_wp2_with fail
  refine (sigsOk_any (Ty.below_w HA.out HW0.out)).mono ?_
  rintro e w1 ⟨rfl, hb1⟩
  have HW1 := Lib.hid (HW0.out.trans (hb1.mono HW0.out.size))
  have X1 := Lib.hid (X0.out.below hb1 X0.out.lt)
  have Z1 := Lib.hid (Z0.out.below hb1 Z0.out.lt)
  clear hb1
  by_cases hc : sigB (H, B, L) = true
  case neg =>
    have hc' : sigB (H, B, L) = false := by simpa using hc
    rw [hc']
    clear hc
    have HR := Lib.hid (show frkD (H, B, L) = sgZ by unfold frkD; rw [hc']; rfl)
    have z0 := Z1.out.cell 0
    have z1 := Z1.out.cell 1
    have z2 := Z1.out.cell 2
    have e0 := Z1.out.frz 0
    have e1 := Z1.out.frz 1
    have e2 := Z1.out.frz 2
    have zl := Z1.out.lt
    simp at z0 z1 z2
    go_wp2_with fail
    refine bodyPost_ret (v := .agg #[.slice none 0 0, .slice none 0 0, .slice none 0 0]) (by simp [results, Try.results43, go_sem, z0, z1, z2]) rfl ⟨_, _, _, [], rfl, by rw [HR.out]; exact nilSigs, fun b h => absurd h List.not_mem_nil, by rw [HR.out]; exact nilSmall, (((HW1.out.setCell (p := ⟨w.heap.size + 1, 0, none⟩) (by show w.heap.size ≤ w.heap.size + 1; omega) _).setCell (p := ⟨w.heap.size + 1, 1, none⟩) (by show w.heap.size ≤ w.heap.size + 1; omega) _).setCell (p := ⟨w.heap.size + 1, 2, none⟩) (by show w.heap.size ≤ w.heap.size + 1; omega) _)⟩
  rw [hc]
  have HYES := Lib.hid (frk_yes hc)
  have HL := Lib.hid (show H.length = 8 ∧ B.length = 8 ∧ L.length = 8 from ⟨(sig_iff.1 hc).1, (sig_iff.1 hc).2.1, (sig_iff.1 hc).2.2.1⟩)
  clear hc
  have p0 := X1.out.cell 0
  have p1 := X1.out.cell 1
  have p2 := X1.out.cell 2
  have pl := X1.out.lt
  simp at p0 p1 p2
  have hl1 := HW1.out.size
  go_wp2_with fail
  refine (l10Copy_any (Ty.below_w HA.out HW1.out) HL.out.1 HL.out.2.1 HL.out.2.2).mono ?_
  rintro e w3 ⟨g0, g1, g2, k0, k1, k2, rfl, hs8, hb3⟩
  have hz1 := Z1.out.lt
  have HW3 := Lib.hid (HW1.out.trans (hb3.mono HW1.out.size))
  have X3 := Lib.hid (X1.out.below hb3 X1.out.lt)
  have Z3 := Lib.hid (Z1.out.below hb3 Z1.out.lt)
  have hg0 : w.heap.size + 2 < g0 ∧ g0 < w3.heap.size := by have := hs8.b0; omega
  have hg1 : w.heap.size + 2 < g1 ∧ g1 < w3.heap.size := by have := hs8.b1; omega
  have hg2 : w.heap.size + 2 < g2 ∧ g2 < w3.heap.size := by have := hs8.b2; omega
  have O4 := Lib.hid (Box.new w3 #[.slice (some ⟨g0, 0, none⟩) 8 k0, .slice (some ⟨g1, 0, none⟩) 8 k1, .slice (some ⟨g2, 0, none⟩) 8 k2] 26)
  have X4 := Lib.hid (X3.out.alloc (.cells #[.slice (some ⟨g0, 0, none⟩) 8 k0, .slice (some ⟨g1, 0, none⟩) 8 k1, .slice (some ⟨g2, 0, none⟩) 8 k2] 26))
  have Z4 := Lib.hid (Z3.out.alloc (.cells #[.slice (some ⟨g0, 0, none⟩) 8 k0, .slice (some ⟨g1, 0, none⟩) 8 k1, .slice (some ⟨g2, 0, none⟩) 8 k2] 26))
  have S3 := Lib.hid hs8
  have S4 := Lib.hid (hs8.below ((Below.refl _ _).alloc (Nat.le_refl _) (.cells #[.slice (some ⟨g0, 0, none⟩) 8 k0, .slice (some ⟨g1, 0, none⟩) 8 k1, .slice (some ⟨g2, 0, none⟩) 8 k2] 26)))
  have HW4 := Lib.hid (HW3.out.alloc HW3.out.size (.cells #[.slice (some ⟨g0, 0, none⟩) 8 k0, .slice (some ⟨g1, 0, none⟩) 8 k1, .slice (some ⟨g2, 0, none⟩) 8 k2] 26))
  have hz3 : w.heap.size + 1 < w3.heap.size := by omega
  have hz4 : w.heap.size < w3.heap.size := by omega
  clear hs8 hb3 p0 p1 p2 pl hl1
  have o0 := O4.out.cell 0
  have o1 := O4.out.cell 1
  have o2 := O4.out.cell 2
  have q0 := O4.out.frz 0
  have q1 := O4.out.frz 1
  have q2 := O4.out.frz 2
  have ol := O4.out.lt
  simp at o0 o1 o2
  have z0 := Z3.out.cell 0
  have z1 := Z3.out.cell 1
  have z2 := Z3.out.cell 2
  have e0 := Z3.out.frz 0
  have e1 := Z3.out.frz 1
  have e2 := Z3.out.frz 2
  have zl := Z3.out.lt
  simp at z0 z1 z2
  have mB1 := mB w3
  have ne0 : ¬ (w.heap.size + 1 = w3.heap.size) := by omega
  have ne1 : ¬ (w3.heap.size = w.heap.size + 1) := by omega
  have ne8 : ¬ (w3.heap.size = w.heap.size) := by omega
  have ne9 : ¬ (w.heap.size = w3.heap.size) := by omega
  go_wp2_with fail
  have hend := ((((S3.out.other ⟨w.heap.size + 1, 0, none⟩ (.slice (some ⟨w3.heap.size + 1, 0, none⟩) 8 8) (by show w.heap.size + 1 ≠ g0; omega) (by show w.heap.size + 1 ≠ g1; omega) (by show w.heap.size + 1 ≠ g2; omega)).other ⟨w.heap.size + 1, 1, none⟩ (.slice (some ⟨g1, 0, none⟩) 8 k1) (by show w.heap.size + 1 ≠ g0; omega) (by show w.heap.size + 1 ≠ g1; omega) (by show w.heap.size + 1 ≠ g2; omega)).other ⟨w.heap.size + 1, 2, none⟩ (.slice (some ⟨g2, 0, none⟩) 8 k2) (by show w.heap.size + 1 ≠ g0; omega) (by show w.heap.size + 1 ≠ g1; omega) (by show w.heap.size + 1 ≠ g2; omega)).below ((Below.refl _ _).alloc (Nat.le_refl _) (.cells #[.slice (some ⟨w3.heap.size + 1, 0, none⟩) 8 8, .slice (some ⟨g1, 0, none⟩) 8 k1, .slice (some ⟨g2, 0, none⟩) 8 k2] 26))).new0 (by have := S3.out.b0; simp only [World.size_setCell, World.size_alloc]; omega)
  have hzz : ∀ u v x : Value, ((((w3.setCell ⟨w.heap.size + 1, 0, none⟩ u).setCell ⟨w.heap.size + 1, 1, none⟩ v).setCell ⟨w.heap.size + 1, 2, none⟩ x).alloc (.cells #[.slice (some ⟨w3.heap.size + 1, 0, none⟩) 8 8, .slice (some ⟨g1, 0, none⟩) 8 k1, .slice (some ⟨g2, 0, none⟩) 8 k2] 26)).heap.size = w3.heap.size + 1 := fun u v x => by simp only [World.size_setCell, World.size_alloc]
  rw [hzz] at hend
  refine bodyPost_ret (v := .agg #[.slice (some ⟨w3.heap.size + 1, 0, none⟩) 8 8, .slice (some ⟨g1, 0, none⟩) 8 k1, .slice (some ⟨g2, 0, none⟩) 8 k2]) (by simp [results, Try.results43, go_sem, z0, z1, z2, hz3, hz4]) rfl ⟨_, _, _, _, rfl, by rw [HYES.out]; exact hend.M 8 k1 k2, fun b hb => ?_, by rw [HYES.out]; exact hend.small, (((((HW3.out.setCell (p := ⟨w.heap.size + 1, 0, none⟩) (by show w.heap.size ≤ w.heap.size + 1; omega) _).setCell (p := ⟨w.heap.size + 1, 1, none⟩) (by show w.heap.size ≤ w.heap.size + 1; omega) _).setCell (p := ⟨w.heap.size + 1, 2, none⟩) (by show w.heap.size ≤ w.heap.size + 1; omega) _).alloc (by have h := HW3.out.size; simp only [World.size_setCell]; exact h) _).alloc (by have h := HW3.out.size; simp only [World.size_setCell, World.size_alloc]; omega) _)⟩
  have hb2 := hend.fp b hb
  simp only [World.size_setCell, World.size_alloc] at hb2 ⊢
  omega
end Go.Proofs.Ytncinocpdeokgaa
