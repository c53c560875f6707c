/-
  The model's SigsSet.
-/
import Derived.Test.YtncinocpdeokgaaGS3
namespace Go.Proofs.Ytncinocpdeokgaa
open Go.RowKit

set_option maxHeartbeats 4000000 in
theorem sigsSet_any : GSet 31 := by
  intro w hi x0 x1 x2 D n d h hs
  have HA := Lib.hid h
  have HSM := Lib.hid hs
  obtain ⟨A0, n0, c0, A1, n1, c1, A2, n2, c2, hcs⟩ := tySigs_sh h
  simp only [List.cons.injEq, and_true] at hcs
  obtain ⟨rfl, rfl, rfl⟩ := hcs
  clear h hs
  obtain ⟨H, B, L⟩ := D
  have X0 := Lib.hid ((Box.new w #[.slice A0 n0 c0, .slice A1 n1 c1, .slice A2 n2 c2] 26).alloc (.cells #[.slice none 0 0, .slice none 0 0, .slice none 0 0] 26))
  have Z0 := Lib.hid (Box.new (w.alloc (.cells #[.slice A0 n0 c0, .slice A1 n1 c1, .slice A2 n2 c2] 26)) #[.slice none 0 0, .slice none 0 0, .slice none 0 0] 26)
  simp only [World.size_alloc] at Z0
  have HW0 := Lib.hid (show Below w.heap.size w ((w.alloc (.cells #[.slice A0 n0 c0, .slice A1 n1 c1, .slice A2 n2 c2] 26)).alloc (.cells #[.slice none 0 0, .slice none 0 0, .slice none 0 0] 26)) from ((Below.refl _ _).alloc (Nat.le_refl _) _).alloc (by simp only [World.size_alloc]; omega) _)
  go_enter Try.func31, Try.ntmps31
  go_wp2_with fail
  refine (sigsOk_any (Ty.below_w HA.out HW0.out)).mono ?_
  rintro e w1 ⟨rfl, hb1⟩
  have HW1 := Lib.hid (HW0.out.trans (hb1.mono HW0.out.size))
  have X1 := Lib.hid (X0.out.below hb1 X0.out.lt)
  have Z1 := Lib.hid (Z0.out.below hb1 Z0.out.lt)
  clear hb1
  by_cases hc : sigB (H, B, L) = true
  case neg =>
    have hc' : sigB (H, B, L) = false := by simpa using hc
    rw [hc']
    clear hc
    have HR := Lib.hid (show sgsB (H, B, L) n d = false by unfold sgsB; rw [hc']; rfl)
    have z0 := Z1.out.cell 0
    have z1 := Z1.out.cell 1
    have z2 := Z1.out.cell 2
    have e0 := Z1.out.frz 0
    have e1 := Z1.out.frz 1
    have e2 := Z1.out.frz 2
    have zl := Z1.out.lt
    simp at z0 z1 z2
    go_wp2_with fail
    refine bodyPost_ret (v := .tuple #[.agg #[.slice none 0 0, .slice none 0 0, .slice none 0 0], .bool false]) (by simp [results, Try.results31, go_sem, z0, z1, z2]) rfl ⟨_, _, _, [], by rw [HR.out], by rw [sgs_no HR.out]; exact nilSigs, fun b h => absurd h List.not_mem_nil, by rw [sgs_no HR.out]; exact nilSmall, (((HW1.out.setCell (p := ⟨w.heap.size + 1, 0, none⟩) (by show w.heap.size ≤ w.heap.size + 1; omega) _).setCell (p := ⟨w.heap.size + 1, 1, none⟩) (by show w.heap.size ≤ w.heap.size + 1; omega) _).setCell (p := ⟨w.heap.size + 1, 2, none⟩) (by show w.heap.size ≤ w.heap.size + 1; omega) _)⟩
  rw [hc]
  go_wp2_with fail
  refine (l6In_any n 1 8 _).mono ?_
  rintro e w2 ⟨rfl, rfl⟩
  by_cases hn : inB n 1 8 = true
  case neg =>
    have hn' : inB n 1 8 = false := by simpa using hn
    rw [hn']
    clear hn
    have HR := Lib.hid (show sgsB (H, B, L) n d = false by unfold sgsB; rw [hn']; simp)
    have z0 := Z1.out.cell 0
    have z1 := Z1.out.cell 1
    have z2 := Z1.out.cell 2
    have e0 := Z1.out.frz 0
    have e1 := Z1.out.frz 1
    have e2 := Z1.out.frz 2
    have zl := Z1.out.lt
    simp at z0 z1 z2
    go_wp2_with fail
    refine bodyPost_ret (v := .tuple #[.agg #[.slice none 0 0, .slice none 0 0, .slice none 0 0], .bool false]) (by simp [results, Try.results31, go_sem, z0, z1, z2]) rfl ⟨_, _, _, [], by rw [HR.out], by rw [sgs_no HR.out]; exact nilSigs, fun b h => absurd h List.not_mem_nil, by rw [sgs_no HR.out]; exact nilSmall, (((HW1.out.setCell (p := ⟨w.heap.size + 1, 0, none⟩) (by show w.heap.size ≤ w.heap.size + 1; omega) _).setCell (p := ⟨w.heap.size + 1, 1, none⟩) (by show w.heap.size ≤ w.heap.size + 1; omega) _).setCell (p := ⟨w.heap.size + 1, 2, none⟩) (by show w.heap.size ≤ w.heap.size + 1; omega) _)⟩
  rw [hn]
  go_wp2_with fail
  refine (l10Fixed_any n).mono ?_
  rintro e w2 ⟨rfl, rfl⟩
  by_cases hf : fixB n = true
  case pos =>
    rw [hf]
    have HR := Lib.hid (show sgsB (H, B, L) n d = false by unfold sgsB; rw [hf]; simp)
    have z0 := Z1.out.cell 0
    have z1 := Z1.out.cell 1
    have z2 := Z1.out.cell 2
    have e0 := Z1.out.frz 0
    have e1 := Z1.out.frz 1
    have e2 := Z1.out.frz 2
    have zl := Z1.out.lt
    simp at z0 z1 z2
    go_wp2_with fail
    refine bodyPost_ret (v := .tuple #[.agg #[.slice none 0 0, .slice none 0 0, .slice none 0 0], .bool false]) (by simp [results, Try.results31, go_sem, z0, z1, z2]) rfl ⟨_, _, _, [], by rw [HR.out], by rw [sgs_no HR.out]; exact nilSigs, fun b h => absurd h List.not_mem_nil, by rw [sgs_no HR.out]; exact nilSmall, (((HW1.out.setCell (p := ⟨w.heap.size + 1, 0, none⟩) (by show w.heap.size ≤ w.heap.size + 1; omega) _).setCell (p := ⟨w.heap.size + 1, 1, none⟩) (by show w.heap.size ≤ w.heap.size + 1; omega) _).setCell (p := ⟨w.heap.size + 1, 2, none⟩) (by show w.heap.size ≤ w.heap.size + 1; omega) _)⟩
  have hf' : fixB n = false := by simpa using hf
  rw [hf']
  by_cases hd : dOk d = true
  case neg =>
    have hd' : dOk d = false := by simpa using hd
    obtain ⟨d0, d1, d4⟩ := dOk_not hd'
    have HN := Lib.hid (show sgsB (H, B, L) n d = false by unfold sgsB; rw [hd']; simp)
    have e0 : (d == 0) = false := by simpa using d0
    have e1 : (d == 1) = false := by simpa using d1
    have e4 : (d == 4) = false := by simpa using d4
    have f0 : (d != 0) = true := by simpa using d0
    have f1 : (d != 1) = true := by simpa using d1
    have f4 : (d != 4) = true := by simpa using d4
    clear hd hd' d0 d1 d4 hc hn hf hf'
    have HR := Lib.hid (show sgsB (H, B, L) n d = false by exact HN.out)
    have z0 := Z1.out.cell 0
    have z1 := Z1.out.cell 1
    have z2 := Z1.out.cell 2
    have e0 := Z1.out.frz 0
    have e1 := Z1.out.frz 1
    have e2 := Z1.out.frz 2
    have zl := Z1.out.lt
    simp at z0 z1 z2
    go_wp2_with fail
    refine bodyPost_ret (v := .tuple #[.agg #[.slice none 0 0, .slice none 0 0, .slice none 0 0], .bool false]) (by simp [results, Try.results31, go_sem, z0, z1, z2]) rfl ⟨_, _, _, [], by rw [HR.out], by rw [sgs_no HR.out]; exact nilSigs, fun b h => absurd h List.not_mem_nil, by rw [sgs_no HR.out]; exact nilSmall, (((HW1.out.setCell (p := ⟨w.heap.size + 1, 0, none⟩) (by show w.heap.size ≤ w.heap.size + 1; omega) _).setCell (p := ⟨w.heap.size + 1, 1, none⟩) (by show w.heap.size ≤ w.heap.size + 1; omega) _).setCell (p := ⟨w.heap.size + 1, 2, none⟩) (by show w.heap.size ≤ w.heap.size + 1; omega) _)⟩
  have hB : sgsB (H, B, L) n d = true := by unfold sgsB; rw [hc, hn, hf', hd]; rfl
  have HYES := Lib.hid (sgs_yes hB)
  have HB := Lib.hid hB
  have HL := Lib.hid (show H.length = 8 ∧ B.length = 8 ∧ L.length = 8 from ⟨(sig_iff.1 hc).1, (sig_iff.1 hc).2.1, (sig_iff.1 hc).2.2.1⟩)
  obtain ⟨k, hk, rfl, hk1⟩ := inB_nat hn
  rw [hk1] at HYES
  clear hc hn hf hf' hB hk1
  rcases dOk_yes hd with h | h | h
  all_goals
    subst h
    clear hd
    have p0 := X1.out.cell 0
    have p1 := X1.out.cell 1
    have p2 := X1.out.cell 2
    have pl := X1.out.lt
    simp at p0 p1 p2
    have hl1 := HW1.out.size
    go_wp2_with fail
    refine (l10Copy_any (Ty.below_w HA.out HW1.out) HL.out.1 HL.out.2.1 HL.out.2.2).mono ?_
    rintro e w3 ⟨g0, g1, g2, k0, k1, k2, rfl, hs8, hb3⟩
    have hz1 := Z1.out.lt
    have HW3 := Lib.hid (HW1.out.trans (hb3.mono HW1.out.size))
    have X3 := Lib.hid (X1.out.below hb3 X1.out.lt)
    have Z3 := Lib.hid (Z1.out.below hb3 Z1.out.lt)
    have hg0 : w.heap.size + 2 < g0 ∧ g0 < w3.heap.size := by have := hs8.b0; omega
    have hg1 : w.heap.size + 2 < g1 ∧ g1 < w3.heap.size := by have := hs8.b1; omega
    have hg2 : w.heap.size + 2 < g2 ∧ g2 < w3.heap.size := by have := hs8.b2; omega
    have O4 := Lib.hid (Box.new w3 #[.slice (some ⟨g0, 0, none⟩) 8 k0, .slice (some ⟨g1, 0, none⟩) 8 k1, .slice (some ⟨g2, 0, none⟩) 8 k2] 26)
    have X4 := Lib.hid (X3.out.alloc (.cells #[.slice (some ⟨g0, 0, none⟩) 8 k0, .slice (some ⟨g1, 0, none⟩) 8 k1, .slice (some ⟨g2, 0, none⟩) 8 k2] 26))
    have Z4 := Lib.hid (Z3.out.alloc (.cells #[.slice (some ⟨g0, 0, none⟩) 8 k0, .slice (some ⟨g1, 0, none⟩) 8 k1, .slice (some ⟨g2, 0, none⟩) 8 k2] 26))
    have S3 := Lib.hid hs8
    have S4 := Lib.hid (hs8.below ((Below.refl _ _).alloc (Nat.le_refl _) (.cells #[.slice (some ⟨g0, 0, none⟩) 8 k0, .slice (some ⟨g1, 0, none⟩) 8 k1, .slice (some ⟨g2, 0, none⟩) 8 k2] 26)))
    have HW4 := Lib.hid (HW3.out.alloc HW3.out.size (.cells #[.slice (some ⟨g0, 0, none⟩) 8 k0, .slice (some ⟨g1, 0, none⟩) 8 k1, .slice (some ⟨g2, 0, none⟩) 8 k2] 26))
    have hz3 : w.heap.size + 1 < w3.heap.size := by omega
    have hz4 : w.heap.size < w3.heap.size := by omega
    clear hs8 hb3 p0 p1 p2 pl hl1
    have o0 := O4.out.cell 0
    have o1 := O4.out.cell 1
    have o2 := O4.out.cell 2
    have ol := O4.out.lt
    simp at o0 o1 o2
    have z0 := Z3.out.cell 0
    have z1 := Z3.out.cell 1
    have z2 := Z3.out.cell 2
    have e0 := Z3.out.frz 0
    have e1 := Z3.out.frz 1
    have e2 := Z3.out.frz 2
    have zl := Z3.out.lt
    simp at z0 z1 z2
    have ne0 : ¬ (w.heap.size + 1 = w3.heap.size) := by omega
    have ne1 : ¬ (w3.heap.size = w.heap.size + 1) := by omega
    have ne2 : ¬ (w3.heap.size = g2) := by omega
    have ne3 : ¬ (g2 = w3.heap.size) := by omega
    have ne4 : ¬ (w.heap.size + 1 = g2) := by omega
    have ne5 : ¬ (g2 = w.heap.size + 1) := by omega
    have ne6 : ¬ (w.heap.size = g2) := by omega
    have ne7 : ¬ (g2 = w.heap.size) := by omega
    obtain ⟨s2, f2⟩ := S3.out.c2 k hk
    have hk3 : (0 : Int) ≤ k := by omega
    have hk4 : (k : Int) < 8 := by omega
    have hk5 : IntKind.i64.wrap ((k : Int) + 1 - 1) = (k : Int) := by rw [IntWalk.i64_in _ (by omega)]; omega
    go_wp2_with fail
    have hend := fun dd : Int => Lib.hid (((((S3.out.put2 k hk dd).other ⟨w.heap.size + 1, 0, none⟩ (.slice (some ⟨g0, 0, none⟩) 8 k0) (by show w.heap.size + 1 ≠ g0; omega) (by show w.heap.size + 1 ≠ g1; omega) (by show w.heap.size + 1 ≠ g2; omega)).other ⟨w.heap.size + 1, 1, none⟩ (.slice (some ⟨g1, 0, none⟩) 8 k1) (by show w.heap.size + 1 ≠ g0; omega) (by show w.heap.size + 1 ≠ g1; omega) (by show w.heap.size + 1 ≠ g2; omega)).other ⟨w.heap.size + 1, 2, none⟩ (.slice (some ⟨g2, 0, none⟩) 8 k2) (by show w.heap.size + 1 ≠ g0; omega) (by show w.heap.size + 1 ≠ g1; omega) (by show w.heap.size + 1 ≠ g2; omega)).below ((Below.refl _ _).alloc (Nat.le_refl _) (.cells #[.slice (some ⟨g0, 0, none⟩) 8 k0, .slice (some ⟨g1, 0, none⟩) 8 k1, .slice (some ⟨g2, 0, none⟩) 8 k2] 26)))
    refine bodyPost_ret (v := .tuple #[.agg #[.slice (some ⟨g0, 0, none⟩) 8 k0, .slice (some ⟨g1, 0, none⟩) 8 k1, .slice (some ⟨g2, 0, none⟩) 8 k2], .bool true]) (by simp [results, Try.results31, go_sem, z0, z1, z2, hz3]) rfl ⟨_, _, _, _, by rw [HB.out], by rw [HYES.out]; exact (hend _).out.M k0 k1 k2, fun b hb => ?_, by rw [HYES.out]; exact (hend _).out.small, (((((HW3.out.setCell (p := ⟨g2, k, none⟩) (by show w.heap.size ≤ g2; omega) _).setCell (p := ⟨w.heap.size + 1, 0, none⟩) (by show w.heap.size ≤ w.heap.size + 1; omega) _).setCell (p := ⟨w.heap.size + 1, 1, none⟩) (by show w.heap.size ≤ w.heap.size + 1; omega) _).setCell (p := ⟨w.heap.size + 1, 2, none⟩) (by show w.heap.size ≤ w.heap.size + 1; omega) _).alloc (by have h := HW3.out.size; simp only [World.size_setCell]; exact h) _)⟩
    have hb2 := (hend 0).out.fp b hb
    simp only [World.size_setCell, World.size_alloc] at hb2 ⊢
    omega
end Go.Proofs.Ytncinocpdeokgaa
