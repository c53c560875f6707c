/-
  The model's SigsNext.
-/
import Derived.Test.YtncinocpdeokgaaGS8
import Derived.Test.YtncinocpdeokgaaGSA
namespace Go.Proofs.Ytncinocpdeokgaa
open Go.RowKit

set_option maxHeartbeats 4000000 in
theorem sigsNxt_any : GNxt 40 := by
  intro w hi x0 x1 x2 D h hs
  have HA := Lib.hid h
  have HSM := Lib.hid hs
  obtain ⟨A0, n0, c0, A1, n1, c1, A2, n2, c2, hcs⟩ := tySigs_sh h
  simp only [List.cons.injEq, and_true] at hcs
  obtain ⟨rfl, rfl, rfl⟩ := hcs
  clear h hs
  obtain ⟨H, B, L⟩ := D
  have X0 := Lib.hid ((Box.new w #[.slice A0 n0 c0, .slice A1 n1 c1, .slice A2 n2 c2] 26).alloc (.cells #[.slice none 0 0, .slice none 0 0, .slice none 0 0] 26))
  have Z0 := Lib.hid (Box.new (w.alloc (.cells #[.slice A0 n0 c0, .slice A1 n1 c1, .slice A2 n2 c2] 26)) #[.slice none 0 0, .slice none 0 0, .slice none 0 0] 26)
  simp only [World.size_alloc] at Z0
  have HW0 := Lib.hid (show Below w.heap.size w ((w.alloc (.cells #[.slice A0 n0 c0, .slice A1 n1 c1, .slice A2 n2 c2] 26)).alloc (.cells #[.slice none 0 0, .slice none 0 0, .slice none 0 0] 26)) from ((Below.refl _ _).alloc (Nat.le_refl _) _).alloc (by simp only [World.size_alloc]; omega) _)
  go_enter Try.func40, Try.ntmps40
  go_wp2_with fail
  refine (sigsOk_any (Ty.below_w HA.out HW0.out)).mono ?_
  rintro e w1 ⟨rfl, hb1⟩
  have HW1 := Lib.hid (HW0.out.trans (hb1.mono HW0.out.size))
  have X1 := Lib.hid (X0.out.below hb1 X0.out.lt)
  have Z1 := Lib.hid (Z0.out.below hb1 Z0.out.lt)
  clear hb1
  by_cases hc : sigB (H, B, L) = true
  case neg =>
    have hc' : sigB (H, B, L) = false := by simpa using hc
    rw [hc']
    clear hc
    have HR := Lib.hid (show nxtN (H, B, L) = 0 ∧ nxtD (H, B, L) = sgZ ∧ nxtB (H, B, L) = false ∧ nxtX (H, B, L) = 1 by
      have h0 : nxtN (H, B, L) = 0 := by unfold nxtN; rw [hc']; rfl
      exact ⟨h0, by unfold nxtD; rw [hc']; rfl, by unfold nxtB; rw [h0]; rfl, by unfold nxtX; rw [h0]; rfl⟩)
    have z0 := Z1.out.cell 0
    have z1 := Z1.out.cell 1
    have z2 := Z1.out.cell 2
    have e0 := Z1.out.frz 0
    have e1 := Z1.out.frz 1
    have e2 := Z1.out.frz 2
    have zl := Z1.out.lt
    simp at z0 z1 z2
    go_wp2_with fail
    refine bodyPost_ret (v := .tuple #[.agg #[.slice none 0 0, .slice none 0 0, .slice none 0 0], .int .i64 0, .int .i64 1, .bool false]) (by simp [results, Try.results40, go_sem, z0, z1, z2]) rfl ⟨_, _, _, [], by rw [HR.out.1, HR.out.2.2.1, HR.out.2.2.2], by rw [HR.out.2.1]; exact nilSigs, fun b h => absurd h List.not_mem_nil, by rw [HR.out.2.1]; exact nilSmall, (((HW1.out.setCell (p := ⟨w.heap.size + 1, 0, none⟩) (by show w.heap.size ≤ w.heap.size + 1; omega) _).setCell (p := ⟨w.heap.size + 1, 1, none⟩) (by show w.heap.size ≤ w.heap.size + 1; omega) _).setCell (p := ⟨w.heap.size + 1, 2, none⟩) (by show w.heap.size ≤ w.heap.size + 1; omega) _)⟩
  rw [hc]
  have HL := Lib.hid (show H.length = 8 ∧ B.length = 8 ∧ L.length = 8 from ⟨(sig_iff.1 hc).1, (sig_iff.1 hc).2.1, (sig_iff.1 hc).2.2.1⟩)
  have HC := Lib.hid hc
  clear hc
  obtain ⟨b0, o0, _, b1, o1, _, b2, o2, _, hx0, hx1, hx2, hx⟩ := read8 HA.out HL.out.1 HL.out.2.1 HL.out.2.2
  simp only [Value.slice.injEq] at hx0 hx1 hx2
  obtain ⟨rfl, rfl, rfl⟩ := hx0
  obtain ⟨rfl, rfl, rfl⟩ := hx1
  obtain ⟨rfl, rfl, rfl⟩ := hx2
  have HXX := Lib.hid hx
  clear hx
  have p0 := X1.out.cell 0
  have p1 := X1.out.cell 1
  have p2 := X1.out.cell 2
  have pl := X1.out.lt
  simp at p0 p1 p2
  have hl1 := HW1.out.size
  go_wp2_with fail
  refine (l10Copy_any (Ty.below_w HA.out HW1.out) HL.out.1 HL.out.2.1 HL.out.2.2).mono ?_
  rintro e w3 ⟨g0, g1, g2, k0, k1, k2, rfl, hs8, hb3⟩
  have hz1 := Z1.out.lt
  have HW3 := Lib.hid (HW1.out.trans (hb3.mono HW1.out.size))
  have X3 := Lib.hid (X1.out.below hb3 X1.out.lt)
  have Z3 := Lib.hid (Z1.out.below hb3 Z1.out.lt)
  have hg0 : w.heap.size + 2 < g0 ∧ g0 < w3.heap.size := by have := hs8.b0; omega
  have hg1 : w.heap.size + 2 < g1 ∧ g1 < w3.heap.size := by have := hs8.b1; omega
  have hg2 : w.heap.size + 2 < g2 ∧ g2 < w3.heap.size := by have := hs8.b2; omega
  have O4 := Lib.hid (Box.new w3 #[.slice (some ⟨g0, 0, none⟩) 8 k0, .slice (some ⟨g1, 0, none⟩) 8 k1, .slice (some ⟨g2, 0, none⟩) 8 k2] 26)
  have X4 := Lib.hid (X3.out.alloc (.cells #[.slice (some ⟨g0, 0, none⟩) 8 k0, .slice (some ⟨g1, 0, none⟩) 8 k1, .slice (some ⟨g2, 0, none⟩) 8 k2] 26))
  have Z4 := Lib.hid (Z3.out.alloc (.cells #[.slice (some ⟨g0, 0, none⟩) 8 k0, .slice (some ⟨g1, 0, none⟩) 8 k1, .slice (some ⟨g2, 0, none⟩) 8 k2] 26))
  have S3 := Lib.hid hs8
  have S4 := Lib.hid (hs8.below ((Below.refl _ _).alloc (Nat.le_refl _) (.cells #[.slice (some ⟨g0, 0, none⟩) 8 k0, .slice (some ⟨g1, 0, none⟩) 8 k1, .slice (some ⟨g2, 0, none⟩) 8 k2] 26)))
  have HW4 := Lib.hid (HW3.out.alloc HW3.out.size (.cells #[.slice (some ⟨g0, 0, none⟩) 8 k0, .slice (some ⟨g1, 0, none⟩) 8 k1, .slice (some ⟨g2, 0, none⟩) 8 k2] 26))
  have hz3 : w.heap.size + 1 < w3.heap.size := by omega
  have hz4 : w.heap.size < w3.heap.size := by omega
  clear hs8 hb3 p0 p1 p2 pl hl1
  have p0 := X4.out.cell 0
  have p1 := X4.out.cell 1
  have p2 := X4.out.cell 2
  have pl := X4.out.lt
  simp at p0 p1 p2
  go_wp2_with fail
  refine (l10Next_any (HXX.out.below HW4.out)).mono ?_
  rintro e w5 ⟨rfl, hb5⟩
  have HW5 := Lib.hid (HW4.out.trans (hb5.mono HW4.out.size))
  have X5 := Lib.hid (X4.out.below hb5 X4.out.lt)
  have O5 := Lib.hid (O4.out.below hb5 O4.out.lt)
  have Z5 := Lib.hid (Z4.out.below hb5 Z4.out.lt)
  have S5 := Lib.hid (S4.out.below hb5)
  have hw5 : w3.heap.size < w5.heap.size := O5.out.lt
  clear hb5 p0 p1 p2 pl
  have HN := Lib.hid (nxt_yes HC.out)
  dsimp only at HN ⊢
  generalize hqe : nxtIn H B 8 = q at HN ⊢
  have HQ := Lib.hid hqe
  clear hqe
  by_cases hq : q = 0
  · subst hq
    have HR := Lib.hid (show nxtN (H, B, L) = 0 ∧ nxtD (H, B, L) = (H, B, L) ∧ nxtB (H, B, L) = false ∧ nxtX (H, B, L) = 1 from ⟨HN.out, by unfold nxtD; rw [if_pos HC.out, if_pos HQ.out], by unfold nxtB; rw [HN.out]; rfl, by unfold nxtX; rw [HN.out]; rfl⟩)
    have o0 := O5.out.cell 0
    have o1 := O5.out.cell 1
    have o2 := O5.out.cell 2
    have q0 := O5.out.frz 0
    have q1 := O5.out.frz 1
    have q2 := O5.out.frz 2
    have ol := O5.out.lt
    simp at o0 o1 o2
    have z0 := Z5.out.cell 0
    have z1 := Z5.out.cell 1
    have z2 := Z5.out.cell 2
    have e0 := Z5.out.frz 0
    have e1 := Z5.out.frz 1
    have e2 := Z5.out.frz 2
    have zl := Z5.out.lt
    simp at z0 z1 z2
    go_wp2_with fail
    have hend := Lib.hid (((S5.out.other ⟨w.heap.size + 1, 0, none⟩ (.slice (some ⟨g0, 0, none⟩) 8 k0) (by show w.heap.size + 1 ≠ g0; omega) (by show w.heap.size + 1 ≠ g1; omega) (by show w.heap.size + 1 ≠ g2; omega)).other ⟨w.heap.size + 1, 1, none⟩ (.slice (some ⟨g1, 0, none⟩) 8 k1) (by show w.heap.size + 1 ≠ g0; omega) (by show w.heap.size + 1 ≠ g1; omega) (by show w.heap.size + 1 ≠ g2; omega)).other ⟨w.heap.size + 1, 2, none⟩ (.slice (some ⟨g2, 0, none⟩) 8 k2) (by show w.heap.size + 1 ≠ g0; omega) (by show w.heap.size + 1 ≠ g1; omega) (by show w.heap.size + 1 ≠ g2; omega))
    refine bodyPost_ret (v := .tuple #[.agg #[.slice (some ⟨g0, 0, none⟩) 8 k0, .slice (some ⟨g1, 0, none⟩) 8 k1, .slice (some ⟨g2, 0, none⟩) 8 k2], .int .i64 0, .int .i64 1, .bool false]) (by simp [results, Try.results40, go_sem, z0, z1, z2]) rfl ⟨_, _, _, _, by rw [HR.out.1, HR.out.2.2.1, HR.out.2.2.2], by rw [HR.out.2.1]; exact hend.out.M k0 k1 k2, fun b hb => ?_, by rw [HR.out.2.1]; exact hend.out.small, (((HW5.out.setCell (p := ⟨w.heap.size + 1, 0, none⟩) (by show w.heap.size ≤ w.heap.size + 1; omega) _).setCell (p := ⟨w.heap.size + 1, 1, none⟩) (by show w.heap.size ≤ w.heap.size + 1; omega) _).setCell (p := ⟨w.heap.size + 1, 2, none⟩) (by show w.heap.size ≤ w.heap.size + 1; omega) _)⟩
    have hb2 := hend.out.fp b hb
    simp only [World.size_setCell] at hb2 ⊢
    omega
  obtain ⟨k, _, hk, hqk, _⟩ := (nxtIn_range (H := H) (B := B) (Nat.le_refl 8)).resolve_left (fun h => hq (HQ.out.symm.trans h))
  rw [HQ.out] at hqk
  have HQK := Lib.hid hqk
  have HR := Lib.hid (show nxtN (H, B, L) = q ∧ nxtD (H, B, L) = (H.set k false, B, L) ∧ nxtB (H, B, L) = true ∧ nxtX (H, B, L) = doesI L q from ⟨HN.out, by unfold nxtD; rw [if_pos HC.out, if_neg (fun h => hq (HQ.out.symm.trans h))]; dsimp only; rw [HQ.out, show (q - 1).toNat = k by omega], by unfold nxtB; rw [HN.out]; simpa using hq, by unfold nxtX; rw [HN.out, if_neg hq]⟩)
  have hb : (q == 0) = false := by simpa using hq
  have hk1 : IntKind.i64.wrap (q - 1) = (k : Int) := by rw [IntWalk.i64_in _ (by omega)]; omega
  have hk3 : (0 : Int) ≤ k := by omega
  have hk4 : (k : Int) < 8 := by omega
  obtain ⟨s0, f0⟩ := S5.out.c0 k hk
  clear hqk hq
  have S6 := Lib.hid (S5.out.put0 k hk false)
  have X6 := Lib.hid (X5.out.other (a := ⟨g0, k, none⟩) (by show w.heap.size ≠ g0; omega) (.bool false))
  have O6 := Lib.hid (O5.out.other (a := ⟨g0, k, none⟩) (by show w3.heap.size ≠ g0; omega) (.bool false))
  have Z6 := Lib.hid (Z5.out.other (a := ⟨g0, k, none⟩) (by show w.heap.size + 1 ≠ g0; omega) (.bool false))
  have HW6 := Lib.hid (HW5.out.setCell (p := ⟨g0, k, none⟩) (by show w.heap.size ≤ g0; omega) (.bool false))
  have X6x := Lib.hid (HXX.out.below HW6.out)
  have o0 := O5.out.cell 0
  have o1 := O5.out.cell 1
  have o2 := O5.out.cell 2
  have q0 := O5.out.frz 0
  have q1 := O5.out.frz 1
  have q2 := O5.out.frz 2
  simp at o0 o1 o2
  go_wp2_with fail
  clear o0 o1 o2 q0 q1 q2
  generalize w5.setCell ⟨g0, k, none⟩ (.bool false) = W6 at S6 X6 O6 Z6 HW6 X6x ⊢
  have hw6 := O6.out.lt
  have p0 := X6.out.cell 0
  have p1 := X6.out.cell 1
  have p2 := X6.out.cell 2
  have pl := X6.out.lt
  simp at p0 p1 p2
  have u0 := O6.out.cell 0
  have u1 := O6.out.cell 1
  have u2 := O6.out.cell 2
  simp at u0 u1 u2
  refine wp_region_held_drew (S := fun w' => w'.cell? ⟨w.heap.size, 0, none⟩ = some (.slice (some ⟨b0, o0, none⟩) 8 c0) ∧ w'.cell? ⟨w.heap.size, 1, none⟩ = some (.slice (some ⟨b1, o1, none⟩) 8 c1) ∧ w'.cell? ⟨w.heap.size, 2, none⟩ = some (.slice (some ⟨b2, o2, none⟩) 8 c2) ∧ w'.cell? ⟨w3.heap.size, 0, none⟩ = some (.slice (some ⟨g0, 0, none⟩) 8 k0) ∧ w'.cell? ⟨w3.heap.size, 1, none⟩ = some (.slice (some ⟨g1, 0, none⟩) 8 k1) ∧ w'.cell? ⟨w3.heap.size, 2, none⟩ = some (.slice (some ⟨g2, 0, none⟩) 8 k2)) (by kernel_rfl) ⟨p0, p1, p2, u0, u1, u2⟩ (fun hHeld => ?_)
  refine wpAnyH_take (i := 0) (v := ?vn0) rfl (by kernel_rfl) (by kernel_rfl) (by kernel_rfl) (fun _ _ _ h => h) (Or.inl ⟨by rfl, ?hyn0⟩) (by assumption) ?restn0
  case hyn0 =>
    intro w hSw
    try dsimp only at hSw
    go_simp
    try with_reducible rfl
  simp only [Act.put, List.setIfInBounds_toArray, List.set_cons_zero, List.set_cons_succ, List.getElem_toArray, List.getElem_cons_zero]
  refine wpAnyH_take (i := 1) (v := ?vn1) rfl (by kernel_rfl) (by kernel_rfl) (by kernel_rfl) (fun _ _ _ h => h) (Or.inl ⟨by rfl, ?hyn1⟩) (by assumption) ?restn1
  case hyn1 =>
    intro w hSw
    try dsimp only at hSw
    go_simp
    try with_reducible rfl
  simp only [Act.put, List.setIfInBounds_toArray, List.set_cons_zero, List.set_cons_succ, List.getElem_toArray, List.getElem_cons_zero, List.getElem_cons_succ]
  refine wpAnyH_take (i := 2) (v := ?vn2) rfl (by kernel_rfl) (by kernel_rfl) (by kernel_rfl) (fun _ _ _ h => h) (Or.inl ⟨by rfl, ?hyn2⟩) (by assumption) ?restn2
  case hyn2 =>
    intro w hSw
    try dsimp only at hSw
    go_simp
    try with_reducible rfl
  simp only [Act.put, List.setIfInBounds_toArray, List.set_cons_zero, List.set_cons_succ, List.getElem_toArray, List.getElem_cons_zero, List.getElem_cons_succ]
  refine wpAnyH_take (i := 3) (v := ?vn3) rfl (by kernel_rfl) (by kernel_rfl) (by kernel_rfl) (fun _ _ _ h => h) (Or.inl ⟨by rfl, ?hyn3⟩) (by assumption) ?restn3
  case hyn3 =>
    intro w hSw
    try dsimp only at hSw
    go_simp
    try with_reducible rfl
  simp only [Act.put, List.setIfInBounds_toArray, List.set_cons_zero, List.set_cons_succ, List.getElem_toArray, List.getElem_cons_zero, List.getElem_cons_succ]
  refine wpAnyH_ready (rs := [4]) (by kernel_rfl) (by simp) ?_
  refine AllReadyH.cons rfl (fun K hK => ?_) AllReadyH.nil
  go_simp
  go_at_call 76
  refine (l10Does_any (X6x.out.below (Below.refl _ _).drew) q k hk HQK.out).mono ?_
  rintro e w7 ⟨rfl, hb7'⟩
  have hb7 : Below W6.heap.size W6 w7 := (Below.refl _ _).drew.trans (hb7'.mono (Nat.le_refl _))
  have X7 := Lib.hid (X6.out.below hb7 X6.out.lt)
  have O7 := Lib.hid (O6.out.below hb7 O6.out.lt)
  have Z7 := Lib.hid (Z6.out.below hb7 Z6.out.lt)
  have S7 := Lib.hid (S6.out.below hb7)
  have HW7 := Lib.hid (HW6.out.trans (hb7.mono HW6.out.size))
  clear hb7 hb7'
  have z0 := Z7.out.cell 0
  have z1 := Z7.out.cell 1
  have z2 := Z7.out.cell 2
  have e0 := Z7.out.frz 0
  have e1 := Z7.out.frz 1
  have e2 := Z7.out.frz 2
  have zl := Z7.out.lt
  simp at z0 z1 z2
  refine hK.out _ _ ?_ (fun hHeld => ?_)
  · exact ⟨X7.out.cell 0, X7.out.cell 1, X7.out.cell 2, O7.out.cell 0, O7.out.cell 1, O7.out.cell 2⟩
  clear hK K
  skip
  refine wpAnyH_ready (rs := [5]) (by kernel_rfl) (by simp) ?_
  refine AllReadyH.cons rfl (fun K hK => ?_) AllReadyH.nil
  go_simp

  refine hK.out _ _ ?_ (fun hHeld => ?_)
  · exact ⟨(((X7.out.other (a := ⟨w.heap.size + 1, 0, none⟩) (by show w.heap.size ≠ w.heap.size + 1; omega) _).other (a := ⟨w.heap.size + 1, 1, none⟩) (by show w.heap.size ≠ w.heap.size + 1; omega) _).other (a := ⟨w.heap.size + 1, 2, none⟩) (by show w.heap.size ≠ w.heap.size + 1; omega) _).cell 0, (((X7.out.other (a := ⟨w.heap.size + 1, 0, none⟩) (by show w.heap.size ≠ w.heap.size + 1; omega) _).other (a := ⟨w.heap.size + 1, 1, none⟩) (by show w.heap.size ≠ w.heap.size + 1; omega) _).other (a := ⟨w.heap.size + 1, 2, none⟩) (by show w.heap.size ≠ w.heap.size + 1; omega) _).cell 1, (((X7.out.other (a := ⟨w.heap.size + 1, 0, none⟩) (by show w.heap.size ≠ w.heap.size + 1; omega) _).other (a := ⟨w.heap.size + 1, 1, none⟩) (by show w.heap.size ≠ w.heap.size + 1; omega) _).other (a := ⟨w.heap.size + 1, 2, none⟩) (by show w.heap.size ≠ w.heap.size + 1; omega) _).cell 2, (((O7.out.other (a := ⟨w.heap.size + 1, 0, none⟩) (by show w3.heap.size ≠ w.heap.size + 1; omega) _).other (a := ⟨w.heap.size + 1, 1, none⟩) (by show w3.heap.size ≠ w.heap.size + 1; omega) _).other (a := ⟨w.heap.size + 1, 2, none⟩) (by show w3.heap.size ≠ w.heap.size + 1; omega) _).cell 0, (((O7.out.other (a := ⟨w.heap.size + 1, 0, none⟩) (by show w3.heap.size ≠ w.heap.size + 1; omega) _).other (a := ⟨w.heap.size + 1, 1, none⟩) (by show w3.heap.size ≠ w.heap.size + 1; omega) _).other (a := ⟨w.heap.size + 1, 2, none⟩) (by show w3.heap.size ≠ w.heap.size + 1; omega) _).cell 1, (((O7.out.other (a := ⟨w.heap.size + 1, 0, none⟩) (by show w3.heap.size ≠ w.heap.size + 1; omega) _).other (a := ⟨w.heap.size + 1, 1, none⟩) (by show w3.heap.size ≠ w.heap.size + 1; omega) _).other (a := ⟨w.heap.size + 1, 2, none⟩) (by show w3.heap.size ≠ w.heap.size + 1; omega) _).cell 2⟩
  clear hK K
  try simp only [Act.put, List.setIfInBounds_toArray, List.set_cons_zero, List.set_cons_succ, List.getElem_toArray, List.getElem_cons_zero, List.getElem_cons_succ]
  refine wpAnyH_take (i := 6) (v := ?vn6) rfl (by kernel_rfl) (by kernel_rfl) (by kernel_rfl) (fun _ _ _ h => h) (Or.inl ⟨by rfl, ?hyn6⟩) (by assumption) ?restn6
  case hyn6 =>
    intro w hSw
    try dsimp only at hSw
    go_simp
    try with_reducible rfl
  simp only [Act.put, List.setIfInBounds_toArray, List.set_cons_zero, List.set_cons_succ, List.getElem_toArray, List.getElem_cons_zero, List.getElem_cons_succ]
  refine wpAnyH_take (i := 7) (v := ?vn7) rfl (by kernel_rfl) (by kernel_rfl) (by kernel_rfl) (fun _ _ _ h => h) (Or.inl ⟨by rfl, ?hyn7⟩) (by assumption) ?restn7
  case hyn7 =>
    intro w hSw
    try dsimp only at hSw
    go_simp
    try with_reducible rfl
  simp only [Act.put, List.setIfInBounds_toArray, List.set_cons_zero, List.set_cons_succ, List.getElem_toArray, List.getElem_cons_zero, List.getElem_cons_succ]
  refine wpAnyH_take (i := 8) (v := ?vn8) rfl (by kernel_rfl) (by kernel_rfl) (by kernel_rfl) (fun _ _ _ h => h) (Or.inl ⟨by rfl, ?hyn8⟩) (by assumption) ?restn8
  case hyn8 =>
    intro w hSw
    try dsimp only at hSw
    go_simp
    try with_reducible rfl
  simp only [Act.put, List.setIfInBounds_toArray, List.set_cons_zero, List.set_cons_succ, List.getElem_toArray, List.getElem_cons_zero, List.getElem_cons_succ]
  refine wpAnyH_done (by kernel_rfl) ?_ _
  go_wp2_with fail
  have hend := Lib.hid (((S7.out.other ⟨w.heap.size + 1, 0, none⟩ (.slice (some ⟨g0, 0, none⟩) 8 k0) (by show w.heap.size + 1 ≠ g0; omega) (by show w.heap.size + 1 ≠ g1; omega) (by show w.heap.size + 1 ≠ g2; omega)).other ⟨w.heap.size + 1, 1, none⟩ (.slice (some ⟨g1, 0, none⟩) 8 k1) (by show w.heap.size + 1 ≠ g0; omega) (by show w.heap.size + 1 ≠ g1; omega) (by show w.heap.size + 1 ≠ g2; omega)).other ⟨w.heap.size + 1, 2, none⟩ (.slice (some ⟨g2, 0, none⟩) 8 k2) (by show w.heap.size + 1 ≠ g0; omega) (by show w.heap.size + 1 ≠ g1; omega) (by show w.heap.size + 1 ≠ g2; omega))
  refine bodyPost_ret (v := .tuple #[.agg #[.slice (some ⟨g0, 0, none⟩) 8 k0, .slice (some ⟨g1, 0, none⟩) 8 k1, .slice (some ⟨g2, 0, none⟩) 8 k2], .int .i64 q, .int .i64 (doesI L q), .bool true]) (by simp [results, Try.results40, go_sem, z0, z1, z2]) rfl ⟨_, _, _, _, by rw [HR.out.1, HR.out.2.2.1, HR.out.2.2.2], by rw [HR.out.2.1]; exact hend.out.M k0 k1 k2, fun b hb => ?_, by rw [HR.out.2.1]; exact hend.out.small, (((HW7.out.setCell (p := ⟨w.heap.size + 1, 0, none⟩) (by show w.heap.size ≤ w.heap.size + 1; omega) _).setCell (p := ⟨w.heap.size + 1, 1, none⟩) (by show w.heap.size ≤ w.heap.size + 1; omega) _).setCell (p := ⟨w.heap.size + 1, 2, none⟩) (by show w.heap.size ≤ w.heap.size + 1; omega) _)⟩
  have hb2 := hend.out.fp b hb
  simp only [World.size_setCell] at hb2 ⊢
  omega
end Go.Proofs.Ytncinocpdeokgaa
