/-
  The model's l10Does, l10Send.
-/
import Derived.Test.YtncinocpdeokgaaGS5
namespace Go.Proofs.Ytncinocpdeokgaa
open Go.RowKit

theorem Foot.setNew {w w1 : World} {fp : List Nat} (h : Foot w w1 fp) {z : Nat} (hz : w.heap.size ≤ z) (i : Nat) (v : Value) : Foot w (w1.setCell ⟨z, i, none⟩ v) fp :=
  ⟨h.os, h.tape, h.output, by rw [World.size_setCell]; exact h.size, fun k hk hk2 => (heap_setCell_other w1 ⟨z, i, none⟩ k v (by show k ≠ z; omega)).trans (h.block k hk hk2)⟩
theorem S8.X {w : World} {lo g0 g1 g2 hi : Nat} {D : Sg} (h : S8 w lo g0 g1 g2 D) : X8 w hi g0 0 g1 0 g2 0 D :=
  ⟨fun k hk => by rw [Nat.zero_add]; exact (h.c0 k hk).1, fun k hk => by rw [Nat.zero_add]; exact (h.c1 k hk).1, fun k hk => by rw [Nat.zero_add]; exact (h.c2 k hk).1, h.b0.2, h.b1.2, h.b2.2⟩
set_option maxHeartbeats 2000000 in
theorem l10Does_any {w : World} {hi b0 o0 b1 o1 b2 o2 c0 c1 c2 : Nat} {D : Sg} (hx : X8 w hi b0 o0 b1 o1 b2 o2 D) (n : Int) (k : Nat) (hk : k < 8) (e : n = (k : Int) + 1) :
    Calls Try.prog 76 #[.agg #[.slice (some ⟨b0, o0, none⟩) 8 c0, .slice (some ⟨b1, o1, none⟩) 8 c1, .slice (some ⟨b2, o2, none⟩) 8 c2], .int .i64 n] w fun e w' => e = .returned (.int .i64 (doesI D.2.2 n)) ∧ Below w.heap.size w w' := by
  subst e
  have HW := Lib.hid (show Below w.heap.size w (w.alloc (.cells #[.slice (some ⟨b0, o0, none⟩) 8 c0, .slice (some ⟨b1, o1, none⟩) 8 c1, .slice (some ⟨b2, o2, none⟩) 8 c2] 26)) from (Below.refl _ _).alloc (Nat.le_refl _) _)
  have q := (kc HW.out _ _ hx.h2).trans (hx.c2 k hk)
  have hk1 : IntKind.i64.wrap ((k : Int) + 1 - 1) = (k : Int) := by rw [IntWalk.i64_in _ (by omega)]; omega
  have HD := Lib.hid (show doesI D.2.2 ((k : Int) + 1) = if D.2.2.getD k 0 = 0 then usual ((k : Int) + 1) else D.2.2.getD k 0 by unfold doesI; rw [show ((k : Int) + 1 - 1).toNat = k by omega])
  clear hx
  generalize D.2.2.getD k 0 = d at q HD
  generalize doesI D.2.2 ((k : Int) + 1) = r at HD
  have hk3 : (0 : Int) ≤ k := by omega
  have hk4 : (k : Int) < 8 := by omega
  by_cases hd : d = 0
  case neg =>
    have hr := HD.out
    rw [if_neg hd] at hr
    subst hr
    have h1 : (r != 0) = true := by simpa using hd
    have h2 : (r == 0) = false := by simpa using hd
    clear hd
    go_enter Try.func76, Try.ntmps76
    go_wp2_with fail
    go_ret
    exact ⟨rfl, HW.out⟩
  subst hd
  have hr := HD.out
  rw [if_pos rfl] at hr
  clear HD
  obtain h | h | h | h | h | h | h | h : k = 0 ∨ k = 1 ∨ k = 2 ∨ k = 3 ∨ k = 4 ∨ k = 5 ∨ k = 6 ∨ k = 7 := by omega
  all_goals
    subst h
    have HR := Lib.hid hr
    try rw [Nat.add_zero] at q
    clear hr hk1
    go_enter Try.func76, Try.ntmps76
    go_wp2_with fail
    go_ret
    exact ⟨by rw [HR.out]; rfl, HW.out⟩
set_option maxHeartbeats 4000000 in
theorem l10Send_0no {w : World} {lo g0 g1 g2 k0 k1 k2 : Nat} {H B : List Bool} {L : List Int} (hs : S8 w lo g0 g1 g2 (H, B, L)) (hd : doesI L 2 = 1 ∧ B.getD 1 false = false) :
    Calls Try.prog 74 #[.agg #[.slice (some ⟨g0, 0, none⟩) 8 k0, .slice (some ⟨g1, 0, none⟩) 8 k1, .slice (some ⟨g2, 0, none⟩) 8 k2], .int .i64 2] w fun e w' => e = .returned (.agg #[.slice (some ⟨g0, 0, none⟩) 8 k0, .slice (some ⟨g1, 0, none⟩) 8 k1, .slice (some ⟨g2, 0, none⟩) 8 k2]) ∧ S8 w' lo g0 g1 g2 (sndH (H, B, L) 2, B, L) ∧ Foot w w' [g0] := by
  have HS := Lib.hid hs
  have HD := Lib.hid hd
  have hg0 := hs.b0
  have hg1 := hs.b1
  have hg2 := hs.b2
  clear hs hd
  have HAA := Lib.hid (show sndA H 2 = H.set 2 false from (if_pos (Or.inl rfl)))
  have HE := Lib.hid (show sndH (H, B, L) 2 = (sndA H 2) by unfold sndH; dsimp only; rw [(show ((2 : Int) - 1).toNat = 1 by decide)]; exact if_pos HD.out)
  rw [HAA.out] at HE
  clear HAA
  have S0 : S8 (w.setCell ⟨g0, 2, none⟩ (.bool false)) lo g0 g1 g2 ((H.set 2 false), B, L) := (HS.out.put0 2 (by omega) false)
  have T0 : Foot w (w.setCell ⟨g0, 2, none⟩ (.bool false)) [g0] := ((Foot.refl w [g0]).set (List.mem_singleton.2 rfl) 2 (.bool false))
  have hz0 : (w.setCell ⟨g0, 2, none⟩ (.bool false)).heap.size = w.heap.size := by simp only [World.size_setCell]
  have HB0 := Lib.hid (show Below (w.setCell ⟨g0, 2, none⟩ (.bool false)).heap.size (w.setCell ⟨g0, 2, none⟩ (.bool false)) (((w.setCell ⟨g0, 2, none⟩ (.bool false)).alloc (.cells #[.slice (some ⟨g0, 0, none⟩) 8 k0, .slice (some ⟨g1, 0, none⟩) 8 k1, .slice (some ⟨g2, 0, none⟩) 8 k2] 26)).alloc (.cells #[.slice none 0 0, .slice none 0 0, .slice none 0 0] 26)) from ((Below.refl _ _).alloc (Nat.le_refl _) _).alloc (by simp only [World.size_alloc]; omega) _)
  have X0 := Lib.hid ((Box.new (w.setCell ⟨g0, 2, none⟩ (.bool false)) #[.slice (some ⟨g0, 0, none⟩) 8 k0, .slice (some ⟨g1, 0, none⟩) 8 k1, .slice (some ⟨g2, 0, none⟩) 8 k2] 26).alloc (.cells #[.slice none 0 0, .slice none 0 0, .slice none 0 0] 26))
  have Z0 := Lib.hid (Box.new ((w.setCell ⟨g0, 2, none⟩ (.bool false)).alloc (.cells #[.slice (some ⟨g0, 0, none⟩) 8 k0, .slice (some ⟨g1, 0, none⟩) 8 k1, .slice (some ⟨g2, 0, none⟩) 8 k2] 26)) #[.slice none 0 0, .slice none 0 0, .slice none 0 0] 26)
  simp only [World.size_alloc] at Z0
  rw [hz0] at X0 Z0
  have S1 := Lib.hid (S0.below HB0.out)
  have T1 := Lib.hid (T0.trans (Foot.of_below HB0.out [g0]))
  clear S0 T0 HB0 hz0
  obtain ⟨s2, f2⟩ := HS.out.c0 2 (by omega)
  go_enter Try.func74, Try.ntmps74
  go_wp2_with fail
  refine (l10Does_any (hi := 0) S1.out.X 2 1 (by omega) (by rfl)).mono ?_
  rintro e2 w1 ⟨rfl, hb1⟩
  have S2 := Lib.hid (S1.out.below hb1)
  have T2 := Lib.hid (T1.out.trans (Foot.of_below hb1 [g0]))
  have X2 := Lib.hid (X0.out.below hb1 X0.out.lt)
  have Z2 := Lib.hid (Z0.out.below hb1 Z0.out.lt)
  have hx2 := X2.out.lt
  have hz2 := Z2.out.lt
  clear S1 T1 X0 Z0 hb1
  clear s2 f2
  obtain ⟨s1, f1⟩ := S2.out.c0 1 (by omega)
  obtain ⟨q1, _⟩ := S2.out.c1 1 (by omega)
  dsimp only at q1
  have p0 := X2.out.cell 0
  have p1 := X2.out.cell 1
  have p2 := X2.out.cell 2
  have pf0 := X2.out.frz 0
  have pf1 := X2.out.frz 1
  have pf2 := X2.out.frz 2
  simp at p0 p1 p2
  have z0 := Z2.out.cell 0
  have z1 := Z2.out.cell 1
  have z2 := Z2.out.cell 2
  have e0 := Z2.out.frz 0
  have e1 := Z2.out.frz 1
  have e2 := Z2.out.frz 2
  simp at z0 z1 z2
  rw [HD.out.1]
  rw [HD.out.2] at q1
  go_wp2_with fail
  refine bodyPost_ret (v := .agg #[.slice (some ⟨g0, 0, none⟩) 8 k0, .slice (some ⟨g1, 0, none⟩) 8 k1, .slice (some ⟨g2, 0, none⟩) 8 k2]) (by simp [results, Try.results74, go_sem, z0, z1, z2]) rfl ⟨rfl, ?_, (((T2.out.setNew (z := w.heap.size + 1) (by omega) 0 (.slice (some ⟨g0, 0, none⟩) 8 k0)).setNew (z := w.heap.size + 1) (by omega) 1 (.slice (some ⟨g1, 0, none⟩) 8 k1)).setNew (z := w.heap.size + 1) (by omega) 2 (.slice (some ⟨g2, 0, none⟩) 8 k2))⟩
  have h := (((S2.out.other ⟨w.heap.size + 1, 0, none⟩ (.slice (some ⟨g0, 0, none⟩) 8 k0) (by show w.heap.size + 1 ≠ g0; omega) (by show w.heap.size + 1 ≠ g1; omega) (by show w.heap.size + 1 ≠ g2; omega)).other ⟨w.heap.size + 1, 1, none⟩ (.slice (some ⟨g1, 0, none⟩) 8 k1) (by show w.heap.size + 1 ≠ g0; omega) (by show w.heap.size + 1 ≠ g1; omega) (by show w.heap.size + 1 ≠ g2; omega)).other ⟨w.heap.size + 1, 2, none⟩ (.slice (some ⟨g2, 0, none⟩) 8 k2) (by show w.heap.size + 1 ≠ g0; omega) (by show w.heap.size + 1 ≠ g1; omega) (by show w.heap.size + 1 ≠ g2; omega))
  rw [HE.out]
  exact h
set_option maxHeartbeats 4000000 in
theorem l10Send_0blocked {w : World} {lo g0 g1 g2 k0 k1 k2 : Nat} {H B : List Bool} {L : List Int} (hs : S8 w lo g0 g1 g2 (H, B, L)) (hd : doesI L 2 = 1 ∧ B.getD 1 false = true) :
    Calls Try.prog 74 #[.agg #[.slice (some ⟨g0, 0, none⟩) 8 k0, .slice (some ⟨g1, 0, none⟩) 8 k1, .slice (some ⟨g2, 0, none⟩) 8 k2], .int .i64 2] w fun e w' => e = .returned (.agg #[.slice (some ⟨g0, 0, none⟩) 8 k0, .slice (some ⟨g1, 0, none⟩) 8 k1, .slice (some ⟨g2, 0, none⟩) 8 k2]) ∧ S8 w' lo g0 g1 g2 (sndH (H, B, L) 2, B, L) ∧ Foot w w' [g0] := by
  have HS := Lib.hid hs
  have HD := Lib.hid hd
  have hg0 := hs.b0
  have hg1 := hs.b1
  have hg2 := hs.b2
  clear hs hd
  have HAA := Lib.hid (show sndA H 2 = H.set 2 false from (if_pos (Or.inl rfl)))
  have HE := Lib.hid (show sndH (H, B, L) 2 = (sndA H 2).set 1 true by unfold sndH; dsimp only; rw [(show ((2 : Int) - 1).toNat = 1 by decide)]; exact if_neg (fun h => by rw [HD.out.2] at h; cases h.2))
  rw [HAA.out] at HE
  clear HAA
  have S0 : S8 (w.setCell ⟨g0, 2, none⟩ (.bool false)) lo g0 g1 g2 ((H.set 2 false), B, L) := (HS.out.put0 2 (by omega) false)
  have T0 : Foot w (w.setCell ⟨g0, 2, none⟩ (.bool false)) [g0] := ((Foot.refl w [g0]).set (List.mem_singleton.2 rfl) 2 (.bool false))
  have hz0 : (w.setCell ⟨g0, 2, none⟩ (.bool false)).heap.size = w.heap.size := by simp only [World.size_setCell]
  have HB0 := Lib.hid (show Below (w.setCell ⟨g0, 2, none⟩ (.bool false)).heap.size (w.setCell ⟨g0, 2, none⟩ (.bool false)) (((w.setCell ⟨g0, 2, none⟩ (.bool false)).alloc (.cells #[.slice (some ⟨g0, 0, none⟩) 8 k0, .slice (some ⟨g1, 0, none⟩) 8 k1, .slice (some ⟨g2, 0, none⟩) 8 k2] 26)).alloc (.cells #[.slice none 0 0, .slice none 0 0, .slice none 0 0] 26)) from ((Below.refl _ _).alloc (Nat.le_refl _) _).alloc (by simp only [World.size_alloc]; omega) _)
  have X0 := Lib.hid ((Box.new (w.setCell ⟨g0, 2, none⟩ (.bool false)) #[.slice (some ⟨g0, 0, none⟩) 8 k0, .slice (some ⟨g1, 0, none⟩) 8 k1, .slice (some ⟨g2, 0, none⟩) 8 k2] 26).alloc (.cells #[.slice none 0 0, .slice none 0 0, .slice none 0 0] 26))
  have Z0 := Lib.hid (Box.new ((w.setCell ⟨g0, 2, none⟩ (.bool false)).alloc (.cells #[.slice (some ⟨g0, 0, none⟩) 8 k0, .slice (some ⟨g1, 0, none⟩) 8 k1, .slice (some ⟨g2, 0, none⟩) 8 k2] 26)) #[.slice none 0 0, .slice none 0 0, .slice none 0 0] 26)
  simp only [World.size_alloc] at Z0
  rw [hz0] at X0 Z0
  have S1 := Lib.hid (S0.below HB0.out)
  have T1 := Lib.hid (T0.trans (Foot.of_below HB0.out [g0]))
  clear S0 T0 HB0 hz0
  obtain ⟨s2, f2⟩ := HS.out.c0 2 (by omega)
  go_enter Try.func74, Try.ntmps74
  go_wp2_with fail
  refine (l10Does_any (hi := 0) S1.out.X 2 1 (by omega) (by rfl)).mono ?_
  rintro e2 w1 ⟨rfl, hb1⟩
  have S2 := Lib.hid (S1.out.below hb1)
  have T2 := Lib.hid (T1.out.trans (Foot.of_below hb1 [g0]))
  have X2 := Lib.hid (X0.out.below hb1 X0.out.lt)
  have Z2 := Lib.hid (Z0.out.below hb1 Z0.out.lt)
  have hx2 := X2.out.lt
  have hz2 := Z2.out.lt
  clear S1 T1 X0 Z0 hb1
  clear s2 f2
  obtain ⟨s1, f1⟩ := S2.out.c0 1 (by omega)
  obtain ⟨q1, _⟩ := S2.out.c1 1 (by omega)
  dsimp only at q1
  have p0 := X2.out.cell 0
  have p1 := X2.out.cell 1
  have p2 := X2.out.cell 2
  have pf0 := X2.out.frz 0
  have pf1 := X2.out.frz 1
  have pf2 := X2.out.frz 2
  simp at p0 p1 p2
  have z0 := Z2.out.cell 0
  have z1 := Z2.out.cell 1
  have z2 := Z2.out.cell 2
  have e0 := Z2.out.frz 0
  have e1 := Z2.out.frz 1
  have e2 := Z2.out.frz 2
  simp at z0 z1 z2
  rw [HD.out.1]
  rw [HD.out.2] at q1
  go_wp2_with fail
  refine bodyPost_ret (v := .agg #[.slice (some ⟨g0, 0, none⟩) 8 k0, .slice (some ⟨g1, 0, none⟩) 8 k1, .slice (some ⟨g2, 0, none⟩) 8 k2]) (by simp [results, Try.results74, go_sem, z0, z1, z2]) rfl ⟨rfl, ?_, ((((T2.out.set (List.mem_singleton.2 rfl) 1 (.bool true)).setNew (z := w.heap.size + 1) (by omega) 0 (.slice (some ⟨g0, 0, none⟩) 8 k0)).setNew (z := w.heap.size + 1) (by omega) 1 (.slice (some ⟨g1, 0, none⟩) 8 k1)).setNew (z := w.heap.size + 1) (by omega) 2 (.slice (some ⟨g2, 0, none⟩) 8 k2))⟩
  have h := ((((S2.out.put0 1 (by omega) true).other ⟨w.heap.size + 1, 0, none⟩ (.slice (some ⟨g0, 0, none⟩) 8 k0) (by show w.heap.size + 1 ≠ g0; omega) (by show w.heap.size + 1 ≠ g1; omega) (by show w.heap.size + 1 ≠ g2; omega)).other ⟨w.heap.size + 1, 1, none⟩ (.slice (some ⟨g1, 0, none⟩) 8 k1) (by show w.heap.size + 1 ≠ g0; omega) (by show w.heap.size + 1 ≠ g1; omega) (by show w.heap.size + 1 ≠ g2; omega)).other ⟨w.heap.size + 1, 2, none⟩ (.slice (some ⟨g2, 0, none⟩) 8 k2) (by show w.heap.size + 1 ≠ g0; omega) (by show w.heap.size + 1 ≠ g1; omega) (by show w.heap.size + 1 ≠ g2; omega))
  rw [HE.out]
  exact h
set_option maxHeartbeats 4000000 in
theorem l10Send_0yes {w : World} {lo g0 g1 g2 k0 k1 k2 : Nat} {H B : List Bool} {L : List Int} (hs : S8 w lo g0 g1 g2 (H, B, L)) (hd : ¬ doesI L 2 = 1) :
    Calls Try.prog 74 #[.agg #[.slice (some ⟨g0, 0, none⟩) 8 k0, .slice (some ⟨g1, 0, none⟩) 8 k1, .slice (some ⟨g2, 0, none⟩) 8 k2], .int .i64 2] w fun e w' => e = .returned (.agg #[.slice (some ⟨g0, 0, none⟩) 8 k0, .slice (some ⟨g1, 0, none⟩) 8 k1, .slice (some ⟨g2, 0, none⟩) 8 k2]) ∧ S8 w' lo g0 g1 g2 (sndH (H, B, L) 2, B, L) ∧ Foot w w' [g0] := by
  have HS := Lib.hid hs
  have HD := Lib.hid hd
  have hg0 := hs.b0
  have hg1 := hs.b1
  have hg2 := hs.b2
  clear hs hd
  have HAA := Lib.hid (show sndA H 2 = H.set 2 false from (if_pos (Or.inl rfl)))
  have HE := Lib.hid (show sndH (H, B, L) 2 = (sndA H 2).set 1 true by unfold sndH; dsimp only; rw [(show ((2 : Int) - 1).toNat = 1 by decide)]; exact if_neg (fun h => HD.out h.1))
  rw [HAA.out] at HE
  clear HAA
  have S0 : S8 (w.setCell ⟨g0, 2, none⟩ (.bool false)) lo g0 g1 g2 ((H.set 2 false), B, L) := (HS.out.put0 2 (by omega) false)
  have T0 : Foot w (w.setCell ⟨g0, 2, none⟩ (.bool false)) [g0] := ((Foot.refl w [g0]).set (List.mem_singleton.2 rfl) 2 (.bool false))
  have hz0 : (w.setCell ⟨g0, 2, none⟩ (.bool false)).heap.size = w.heap.size := by simp only [World.size_setCell]
  have HB0 := Lib.hid (show Below (w.setCell ⟨g0, 2, none⟩ (.bool false)).heap.size (w.setCell ⟨g0, 2, none⟩ (.bool false)) (((w.setCell ⟨g0, 2, none⟩ (.bool false)).alloc (.cells #[.slice (some ⟨g0, 0, none⟩) 8 k0, .slice (some ⟨g1, 0, none⟩) 8 k1, .slice (some ⟨g2, 0, none⟩) 8 k2] 26)).alloc (.cells #[.slice none 0 0, .slice none 0 0, .slice none 0 0] 26)) from ((Below.refl _ _).alloc (Nat.le_refl _) _).alloc (by simp only [World.size_alloc]; omega) _)
  have X0 := Lib.hid ((Box.new (w.setCell ⟨g0, 2, none⟩ (.bool false)) #[.slice (some ⟨g0, 0, none⟩) 8 k0, .slice (some ⟨g1, 0, none⟩) 8 k1, .slice (some ⟨g2, 0, none⟩) 8 k2] 26).alloc (.cells #[.slice none 0 0, .slice none 0 0, .slice none 0 0] 26))
  have Z0 := Lib.hid (Box.new ((w.setCell ⟨g0, 2, none⟩ (.bool false)).alloc (.cells #[.slice (some ⟨g0, 0, none⟩) 8 k0, .slice (some ⟨g1, 0, none⟩) 8 k1, .slice (some ⟨g2, 0, none⟩) 8 k2] 26)) #[.slice none 0 0, .slice none 0 0, .slice none 0 0] 26)
  simp only [World.size_alloc] at Z0
  rw [hz0] at X0 Z0
  have S1 := Lib.hid (S0.below HB0.out)
  have T1 := Lib.hid (T0.trans (Foot.of_below HB0.out [g0]))
  clear S0 T0 HB0 hz0
  obtain ⟨s2, f2⟩ := HS.out.c0 2 (by omega)
  go_enter Try.func74, Try.ntmps74
  go_wp2_with fail
  refine (l10Does_any (hi := 0) S1.out.X 2 1 (by omega) (by rfl)).mono ?_
  rintro e2 w1 ⟨rfl, hb1⟩
  have S2 := Lib.hid (S1.out.below hb1)
  have T2 := Lib.hid (T1.out.trans (Foot.of_below hb1 [g0]))
  have X2 := Lib.hid (X0.out.below hb1 X0.out.lt)
  have Z2 := Lib.hid (Z0.out.below hb1 Z0.out.lt)
  have hx2 := X2.out.lt
  have hz2 := Z2.out.lt
  clear S1 T1 X0 Z0 hb1
  clear s2 f2
  obtain ⟨s1, f1⟩ := S2.out.c0 1 (by omega)
  obtain ⟨q1, _⟩ := S2.out.c1 1 (by omega)
  dsimp only at q1
  have p0 := X2.out.cell 0
  have p1 := X2.out.cell 1
  have p2 := X2.out.cell 2
  have pf0 := X2.out.frz 0
  have pf1 := X2.out.frz 1
  have pf2 := X2.out.frz 2
  simp at p0 p1 p2
  have z0 := Z2.out.cell 0
  have z1 := Z2.out.cell 1
  have z2 := Z2.out.cell 2
  have e0 := Z2.out.frz 0
  have e1 := Z2.out.frz 1
  have e2 := Z2.out.frz 2
  simp at z0 z1 z2
  have h1 := HD.out
  generalize doesI L 2 = y at h1
  have h2 : (y != 1) = true := by simpa using h1
  have h3 : (y == 1) = false := by simpa using h1
  go_wp2_with fail
  refine bodyPost_ret (v := .agg #[.slice (some ⟨g0, 0, none⟩) 8 k0, .slice (some ⟨g1, 0, none⟩) 8 k1, .slice (some ⟨g2, 0, none⟩) 8 k2]) (by simp [results, Try.results74, go_sem, z0, z1, z2]) rfl ⟨rfl, ?_, ((((T2.out.set (List.mem_singleton.2 rfl) 1 (.bool true)).setNew (z := w.heap.size + 1) (by omega) 0 (.slice (some ⟨g0, 0, none⟩) 8 k0)).setNew (z := w.heap.size + 1) (by omega) 1 (.slice (some ⟨g1, 0, none⟩) 8 k1)).setNew (z := w.heap.size + 1) (by omega) 2 (.slice (some ⟨g2, 0, none⟩) 8 k2))⟩
  have h := ((((S2.out.put0 1 (by omega) true).other ⟨w.heap.size + 1, 0, none⟩ (.slice (some ⟨g0, 0, none⟩) 8 k0) (by show w.heap.size + 1 ≠ g0; omega) (by show w.heap.size + 1 ≠ g1; omega) (by show w.heap.size + 1 ≠ g2; omega)).other ⟨w.heap.size + 1, 1, none⟩ (.slice (some ⟨g1, 0, none⟩) 8 k1) (by show w.heap.size + 1 ≠ g0; omega) (by show w.heap.size + 1 ≠ g1; omega) (by show w.heap.size + 1 ≠ g2; omega)).other ⟨w.heap.size + 1, 2, none⟩ (.slice (some ⟨g2, 0, none⟩) 8 k2) (by show w.heap.size + 1 ≠ g0; omega) (by show w.heap.size + 1 ≠ g1; omega) (by show w.heap.size + 1 ≠ g2; omega))
  rw [HE.out]
  exact h
set_option maxHeartbeats 4000000 in
theorem l10Send_1no {w : World} {lo g0 g1 g2 k0 k1 k2 : Nat} {H B : List Bool} {L : List Int} (hs : S8 w lo g0 g1 g2 (H, B, L)) (hd : doesI L 6 = 1 ∧ B.getD 5 false = false) :
    Calls Try.prog 74 #[.agg #[.slice (some ⟨g0, 0, none⟩) 8 k0, .slice (some ⟨g1, 0, none⟩) 8 k1, .slice (some ⟨g2, 0, none⟩) 8 k2], .int .i64 6] w fun e w' => e = .returned (.agg #[.slice (some ⟨g0, 0, none⟩) 8 k0, .slice (some ⟨g1, 0, none⟩) 8 k1, .slice (some ⟨g2, 0, none⟩) 8 k2]) ∧ S8 w' lo g0 g1 g2 (sndH (H, B, L) 6, B, L) ∧ Foot w w' [g0] := by
  have HS := Lib.hid hs
  have HD := Lib.hid hd
  have hg0 := hs.b0
  have hg1 := hs.b1
  have hg2 := hs.b2
  clear hs hd
  have HAA := Lib.hid (show sndA H 6 = H.set 2 false from (if_pos (Or.inr rfl)))
  have HE := Lib.hid (show sndH (H, B, L) 6 = (sndA H 6) by unfold sndH; dsimp only; rw [(show ((6 : Int) - 1).toNat = 5 by decide)]; exact if_pos HD.out)
  rw [HAA.out] at HE
  clear HAA
  have S0 : S8 (w.setCell ⟨g0, 2, none⟩ (.bool false)) lo g0 g1 g2 ((H.set 2 false), B, L) := (HS.out.put0 2 (by omega) false)
  have T0 : Foot w (w.setCell ⟨g0, 2, none⟩ (.bool false)) [g0] := ((Foot.refl w [g0]).set (List.mem_singleton.2 rfl) 2 (.bool false))
  have hz0 : (w.setCell ⟨g0, 2, none⟩ (.bool false)).heap.size = w.heap.size := by simp only [World.size_setCell]
  have HB0 := Lib.hid (show Below (w.setCell ⟨g0, 2, none⟩ (.bool false)).heap.size (w.setCell ⟨g0, 2, none⟩ (.bool false)) (((w.setCell ⟨g0, 2, none⟩ (.bool false)).alloc (.cells #[.slice (some ⟨g0, 0, none⟩) 8 k0, .slice (some ⟨g1, 0, none⟩) 8 k1, .slice (some ⟨g2, 0, none⟩) 8 k2] 26)).alloc (.cells #[.slice none 0 0, .slice none 0 0, .slice none 0 0] 26)) from ((Below.refl _ _).alloc (Nat.le_refl _) _).alloc (by simp only [World.size_alloc]; omega) _)
  have X0 := Lib.hid ((Box.new (w.setCell ⟨g0, 2, none⟩ (.bool false)) #[.slice (some ⟨g0, 0, none⟩) 8 k0, .slice (some ⟨g1, 0, none⟩) 8 k1, .slice (some ⟨g2, 0, none⟩) 8 k2] 26).alloc (.cells #[.slice none 0 0, .slice none 0 0, .slice none 0 0] 26))
  have Z0 := Lib.hid (Box.new ((w.setCell ⟨g0, 2, none⟩ (.bool false)).alloc (.cells #[.slice (some ⟨g0, 0, none⟩) 8 k0, .slice (some ⟨g1, 0, none⟩) 8 k1, .slice (some ⟨g2, 0, none⟩) 8 k2] 26)) #[.slice none 0 0, .slice none 0 0, .slice none 0 0] 26)
  simp only [World.size_alloc] at Z0
  rw [hz0] at X0 Z0
  have S1 := Lib.hid (S0.below HB0.out)
  have T1 := Lib.hid (T0.trans (Foot.of_below HB0.out [g0]))
  clear S0 T0 HB0 hz0
  obtain ⟨s2, f2⟩ := HS.out.c0 2 (by omega)
  go_enter Try.func74, Try.ntmps74
  go_wp2_with fail
  refine (l10Does_any (hi := 0) S1.out.X 6 5 (by omega) (by rfl)).mono ?_
  rintro e2 w1 ⟨rfl, hb1⟩
  have S2 := Lib.hid (S1.out.below hb1)
  have T2 := Lib.hid (T1.out.trans (Foot.of_below hb1 [g0]))
  have X2 := Lib.hid (X0.out.below hb1 X0.out.lt)
  have Z2 := Lib.hid (Z0.out.below hb1 Z0.out.lt)
  have hx2 := X2.out.lt
  have hz2 := Z2.out.lt
  clear S1 T1 X0 Z0 hb1
  clear s2 f2
  obtain ⟨s1, f1⟩ := S2.out.c0 5 (by omega)
  obtain ⟨q1, _⟩ := S2.out.c1 5 (by omega)
  dsimp only at q1
  have p0 := X2.out.cell 0
  have p1 := X2.out.cell 1
  have p2 := X2.out.cell 2
  have pf0 := X2.out.frz 0
  have pf1 := X2.out.frz 1
  have pf2 := X2.out.frz 2
  simp at p0 p1 p2
  have z0 := Z2.out.cell 0
  have z1 := Z2.out.cell 1
  have z2 := Z2.out.cell 2
  have e0 := Z2.out.frz 0
  have e1 := Z2.out.frz 1
  have e2 := Z2.out.frz 2
  simp at z0 z1 z2
  rw [HD.out.1]
  rw [HD.out.2] at q1
  go_wp2_with fail
  refine bodyPost_ret (v := .agg #[.slice (some ⟨g0, 0, none⟩) 8 k0, .slice (some ⟨g1, 0, none⟩) 8 k1, .slice (some ⟨g2, 0, none⟩) 8 k2]) (by simp [results, Try.results74, go_sem, z0, z1, z2]) rfl ⟨rfl, ?_, (((T2.out.setNew (z := w.heap.size + 1) (by omega) 0 (.slice (some ⟨g0, 0, none⟩) 8 k0)).setNew (z := w.heap.size + 1) (by omega) 1 (.slice (some ⟨g1, 0, none⟩) 8 k1)).setNew (z := w.heap.size + 1) (by omega) 2 (.slice (some ⟨g2, 0, none⟩) 8 k2))⟩
  have h := (((S2.out.other ⟨w.heap.size + 1, 0, none⟩ (.slice (some ⟨g0, 0, none⟩) 8 k0) (by show w.heap.size + 1 ≠ g0; omega) (by show w.heap.size + 1 ≠ g1; omega) (by show w.heap.size + 1 ≠ g2; omega)).other ⟨w.heap.size + 1, 1, none⟩ (.slice (some ⟨g1, 0, none⟩) 8 k1) (by show w.heap.size + 1 ≠ g0; omega) (by show w.heap.size + 1 ≠ g1; omega) (by show w.heap.size + 1 ≠ g2; omega)).other ⟨w.heap.size + 1, 2, none⟩ (.slice (some ⟨g2, 0, none⟩) 8 k2) (by show w.heap.size + 1 ≠ g0; omega) (by show w.heap.size + 1 ≠ g1; omega) (by show w.heap.size + 1 ≠ g2; omega))
  rw [HE.out]
  exact h
set_option maxHeartbeats 4000000 in
theorem l10Send_1blocked {w : World} {lo g0 g1 g2 k0 k1 k2 : Nat} {H B : List Bool} {L : List Int} (hs : S8 w lo g0 g1 g2 (H, B, L)) (hd : doesI L 6 = 1 ∧ B.getD 5 false = true) :
    Calls Try.prog 74 #[.agg #[.slice (some ⟨g0, 0, none⟩) 8 k0, .slice (some ⟨g1, 0, none⟩) 8 k1, .slice (some ⟨g2, 0, none⟩) 8 k2], .int .i64 6] w fun e w' => e = .returned (.agg #[.slice (some ⟨g0, 0, none⟩) 8 k0, .slice (some ⟨g1, 0, none⟩) 8 k1, .slice (some ⟨g2, 0, none⟩) 8 k2]) ∧ S8 w' lo g0 g1 g2 (sndH (H, B, L) 6, B, L) ∧ Foot w w' [g0] := by
  have HS := Lib.hid hs
  have HD := Lib.hid hd
  have hg0 := hs.b0
  have hg1 := hs.b1
  have hg2 := hs.b2
  clear hs hd
  have HAA := Lib.hid (show sndA H 6 = H.set 2 false from (if_pos (Or.inr rfl)))
  have HE := Lib.hid (show sndH (H, B, L) 6 = (sndA H 6).set 5 true by unfold sndH; dsimp only; rw [(show ((6 : Int) - 1).toNat = 5 by decide)]; exact if_neg (fun h => by rw [HD.out.2] at h; cases h.2))
  rw [HAA.out] at HE
  clear HAA
  have S0 : S8 (w.setCell ⟨g0, 2, none⟩ (.bool false)) lo g0 g1 g2 ((H.set 2 false), B, L) := (HS.out.put0 2 (by omega) false)
  have T0 : Foot w (w.setCell ⟨g0, 2, none⟩ (.bool false)) [g0] := ((Foot.refl w [g0]).set (List.mem_singleton.2 rfl) 2 (.bool false))
  have hz0 : (w.setCell ⟨g0, 2, none⟩ (.bool false)).heap.size = w.heap.size := by simp only [World.size_setCell]
  have HB0 := Lib.hid (show Below (w.setCell ⟨g0, 2, none⟩ (.bool false)).heap.size (w.setCell ⟨g0, 2, none⟩ (.bool false)) (((w.setCell ⟨g0, 2, none⟩ (.bool false)).alloc (.cells #[.slice (some ⟨g0, 0, none⟩) 8 k0, .slice (some ⟨g1, 0, none⟩) 8 k1, .slice (some ⟨g2, 0, none⟩) 8 k2] 26)).alloc (.cells #[.slice none 0 0, .slice none 0 0, .slice none 0 0] 26)) from ((Below.refl _ _).alloc (Nat.le_refl _) _).alloc (by simp only [World.size_alloc]; omega) _)
  have X0 := Lib.hid ((Box.new (w.setCell ⟨g0, 2, none⟩ (.bool false)) #[.slice (some ⟨g0, 0, none⟩) 8 k0, .slice (some ⟨g1, 0, none⟩) 8 k1, .slice (some ⟨g2, 0, none⟩) 8 k2] 26).alloc (.cells #[.slice none 0 0, .slice none 0 0, .slice none 0 0] 26))
  have Z0 := Lib.hid (Box.new ((w.setCell ⟨g0, 2, none⟩ (.bool false)).alloc (.cells #[.slice (some ⟨g0, 0, none⟩) 8 k0, .slice (some ⟨g1, 0, none⟩) 8 k1, .slice (some ⟨g2, 0, none⟩) 8 k2] 26)) #[.slice none 0 0, .slice none 0 0, .slice none 0 0] 26)
  simp only [World.size_alloc] at Z0
  rw [hz0] at X0 Z0
  have S1 := Lib.hid (S0.below HB0.out)
  have T1 := Lib.hid (T0.trans (Foot.of_below HB0.out [g0]))
  clear S0 T0 HB0 hz0
  obtain ⟨s2, f2⟩ := HS.out.c0 2 (by omega)
  go_enter Try.func74, Try.ntmps74
  go_wp2_with fail
  refine (l10Does_any (hi := 0) S1.out.X 6 5 (by omega) (by rfl)).mono ?_
  rintro e2 w1 ⟨rfl, hb1⟩
  have S2 := Lib.hid (S1.out.below hb1)
  have T2 := Lib.hid (T1.out.trans (Foot.of_below hb1 [g0]))
  have X2 := Lib.hid (X0.out.below hb1 X0.out.lt)
  have Z2 := Lib.hid (Z0.out.below hb1 Z0.out.lt)
  have hx2 := X2.out.lt
  have hz2 := Z2.out.lt
  clear S1 T1 X0 Z0 hb1
  clear s2 f2
  obtain ⟨s1, f1⟩ := S2.out.c0 5 (by omega)
  obtain ⟨q1, _⟩ := S2.out.c1 5 (by omega)
  dsimp only at q1
  have p0 := X2.out.cell 0
  have p1 := X2.out.cell 1
  have p2 := X2.out.cell 2
  have pf0 := X2.out.frz 0
  have pf1 := X2.out.frz 1
  have pf2 := X2.out.frz 2
  simp at p0 p1 p2
  have z0 := Z2.out.cell 0
  have z1 := Z2.out.cell 1
  have z2 := Z2.out.cell 2
  have e0 := Z2.out.frz 0
  have e1 := Z2.out.frz 1
  have e2 := Z2.out.frz 2
  simp at z0 z1 z2
  rw [HD.out.1]
  rw [HD.out.2] at q1
  go_wp2_with fail
  refine bodyPost_ret (v := .agg #[.slice (some ⟨g0, 0, none⟩) 8 k0, .slice (some ⟨g1, 0, none⟩) 8 k1, .slice (some ⟨g2, 0, none⟩) 8 k2]) (by simp [results, Try.results74, go_sem, z0, z1, z2]) rfl ⟨rfl, ?_, ((((T2.out.set (List.mem_singleton.2 rfl) 5 (.bool true)).setNew (z := w.heap.size + 1) (by omega) 0 (.slice (some ⟨g0, 0, none⟩) 8 k0)).setNew (z := w.heap.size + 1) (by omega) 1 (.slice (some ⟨g1, 0, none⟩) 8 k1)).setNew (z := w.heap.size + 1) (by omega) 2 (.slice (some ⟨g2, 0, none⟩) 8 k2))⟩
  have h := ((((S2.out.put0 5 (by omega) true).other ⟨w.heap.size + 1, 0, none⟩ (.slice (some ⟨g0, 0, none⟩) 8 k0) (by show w.heap.size + 1 ≠ g0; omega) (by show w.heap.size + 1 ≠ g1; omega) (by show w.heap.size + 1 ≠ g2; omega)).other ⟨w.heap.size + 1, 1, none⟩ (.slice (some ⟨g1, 0, none⟩) 8 k1) (by show w.heap.size + 1 ≠ g0; omega) (by show w.heap.size + 1 ≠ g1; omega) (by show w.heap.size + 1 ≠ g2; omega)).other ⟨w.heap.size + 1, 2, none⟩ (.slice (some ⟨g2, 0, none⟩) 8 k2) (by show w.heap.size + 1 ≠ g0; omega) (by show w.heap.size + 1 ≠ g1; omega) (by show w.heap.size + 1 ≠ g2; omega))
  rw [HE.out]
  exact h
set_option maxHeartbeats 4000000 in
theorem l10Send_1yes {w : World} {lo g0 g1 g2 k0 k1 k2 : Nat} {H B : List Bool} {L : List Int} (hs : S8 w lo g0 g1 g2 (H, B, L)) (hd : ¬ doesI L 6 = 1) :
    Calls Try.prog 74 #[.agg #[.slice (some ⟨g0, 0, none⟩) 8 k0, .slice (some ⟨g1, 0, none⟩) 8 k1, .slice (some ⟨g2, 0, none⟩) 8 k2], .int .i64 6] w fun e w' => e = .returned (.agg #[.slice (some ⟨g0, 0, none⟩) 8 k0, .slice (some ⟨g1, 0, none⟩) 8 k1, .slice (some ⟨g2, 0, none⟩) 8 k2]) ∧ S8 w' lo g0 g1 g2 (sndH (H, B, L) 6, B, L) ∧ Foot w w' [g0] := by
  have HS := Lib.hid hs
  have HD := Lib.hid hd
  have hg0 := hs.b0
  have hg1 := hs.b1
  have hg2 := hs.b2
  clear hs hd
  have HAA := Lib.hid (show sndA H 6 = H.set 2 false from (if_pos (Or.inr rfl)))
  have HE := Lib.hid (show sndH (H, B, L) 6 = (sndA H 6).set 5 true by unfold sndH; dsimp only; rw [(show ((6 : Int) - 1).toNat = 5 by decide)]; exact if_neg (fun h => HD.out h.1))
  rw [HAA.out] at HE
  clear HAA
  have S0 : S8 (w.setCell ⟨g0, 2, none⟩ (.bool false)) lo g0 g1 g2 ((H.set 2 false), B, L) := (HS.out.put0 2 (by omega) false)
  have T0 : Foot w (w.setCell ⟨g0, 2, none⟩ (.bool false)) [g0] := ((Foot.refl w [g0]).set (List.mem_singleton.2 rfl) 2 (.bool false))
  have hz0 : (w.setCell ⟨g0, 2, none⟩ (.bool false)).heap.size = w.heap.size := by simp only [World.size_setCell]
  have HB0 := Lib.hid (show Below (w.setCell ⟨g0, 2, none⟩ (.bool false)).heap.size (w.setCell ⟨g0, 2, none⟩ (.bool false)) (((w.setCell ⟨g0, 2, none⟩ (.bool false)).alloc (.cells #[.slice (some ⟨g0, 0, none⟩) 8 k0, .slice (some ⟨g1, 0, none⟩) 8 k1, .slice (some ⟨g2, 0, none⟩) 8 k2] 26)).alloc (.cells #[.slice none 0 0, .slice none 0 0, .slice none 0 0] 26)) from ((Below.refl _ _).alloc (Nat.le_refl _) _).alloc (by simp only [World.size_alloc]; omega) _)
  have X0 := Lib.hid ((Box.new (w.setCell ⟨g0, 2, none⟩ (.bool false)) #[.slice (some ⟨g0, 0, none⟩) 8 k0, .slice (some ⟨g1, 0, none⟩) 8 k1, .slice (some ⟨g2, 0, none⟩) 8 k2] 26).alloc (.cells #[.slice none 0 0, .slice none 0 0, .slice none 0 0] 26))
  have Z0 := Lib.hid (Box.new ((w.setCell ⟨g0, 2, none⟩ (.bool false)).alloc (.cells #[.slice (some ⟨g0, 0, none⟩) 8 k0, .slice (some ⟨g1, 0, none⟩) 8 k1, .slice (some ⟨g2, 0, none⟩) 8 k2] 26)) #[.slice none 0 0, .slice none 0 0, .slice none 0 0] 26)
  simp only [World.size_alloc] at Z0
  rw [hz0] at X0 Z0
  have S1 := Lib.hid (S0.below HB0.out)
  have T1 := Lib.hid (T0.trans (Foot.of_below HB0.out [g0]))
  clear S0 T0 HB0 hz0
  obtain ⟨s2, f2⟩ := HS.out.c0 2 (by omega)
  go_enter Try.func74, Try.ntmps74
  go_wp2_with fail
  refine (l10Does_any (hi := 0) S1.out.X 6 5 (by omega) (by rfl)).mono ?_
  rintro e2 w1 ⟨rfl, hb1⟩
  have S2 := Lib.hid (S1.out.below hb1)
  have T2 := Lib.hid (T1.out.trans (Foot.of_below hb1 [g0]))
  have X2 := Lib.hid (X0.out.below hb1 X0.out.lt)
  have Z2 := Lib.hid (Z0.out.below hb1 Z0.out.lt)
  have hx2 := X2.out.lt
  have hz2 := Z2.out.lt
  clear S1 T1 X0 Z0 hb1
  clear s2 f2
  obtain ⟨s1, f1⟩ := S2.out.c0 5 (by omega)
  obtain ⟨q1, _⟩ := S2.out.c1 5 (by omega)
  dsimp only at q1
  have p0 := X2.out.cell 0
  have p1 := X2.out.cell 1
  have p2 := X2.out.cell 2
  have pf0 := X2.out.frz 0
  have pf1 := X2.out.frz 1
  have pf2 := X2.out.frz 2
  simp at p0 p1 p2
  have z0 := Z2.out.cell 0
  have z1 := Z2.out.cell 1
  have z2 := Z2.out.cell 2
  have e0 := Z2.out.frz 0
  have e1 := Z2.out.frz 1
  have e2 := Z2.out.frz 2
  simp at z0 z1 z2
  have h1 := HD.out
  generalize doesI L 6 = y at h1
  have h2 : (y != 1) = true := by simpa using h1
  have h3 : (y == 1) = false := by simpa using h1
  go_wp2_with fail
  refine bodyPost_ret (v := .agg #[.slice (some ⟨g0, 0, none⟩) 8 k0, .slice (some ⟨g1, 0, none⟩) 8 k1, .slice (some ⟨g2, 0, none⟩) 8 k2]) (by simp [results, Try.results74, go_sem, z0, z1, z2]) rfl ⟨rfl, ?_, ((((T2.out.set (List.mem_singleton.2 rfl) 5 (.bool true)).setNew (z := w.heap.size + 1) (by omega) 0 (.slice (some ⟨g0, 0, none⟩) 8 k0)).setNew (z := w.heap.size + 1) (by omega) 1 (.slice (some ⟨g1, 0, none⟩) 8 k1)).setNew (z := w.heap.size + 1) (by omega) 2 (.slice (some ⟨g2, 0, none⟩) 8 k2))⟩
  have h := ((((S2.out.put0 5 (by omega) true).other ⟨w.heap.size + 1, 0, none⟩ (.slice (some ⟨g0, 0, none⟩) 8 k0) (by show w.heap.size + 1 ≠ g0; omega) (by show w.heap.size + 1 ≠ g1; omega) (by show w.heap.size + 1 ≠ g2; omega)).other ⟨w.heap.size + 1, 1, none⟩ (.slice (some ⟨g1, 0, none⟩) 8 k1) (by show w.heap.size + 1 ≠ g0; omega) (by show w.heap.size + 1 ≠ g1; omega) (by show w.heap.size + 1 ≠ g2; omega)).other ⟨w.heap.size + 1, 2, none⟩ (.slice (some ⟨g2, 0, none⟩) 8 k2) (by show w.heap.size + 1 ≠ g0; omega) (by show w.heap.size + 1 ≠ g1; omega) (by show w.heap.size + 1 ≠ g2; omega))
  rw [HE.out]
  exact h
set_option maxHeartbeats 4000000 in
theorem l10Send_2no {w : World} {lo g0 g1 g2 k0 k1 k2 : Nat} {H B : List Bool} {L : List Int} (hs : S8 w lo g0 g1 g2 (H, B, L)) (hd : doesI L 3 = 1 ∧ B.getD 2 false = false) :
    Calls Try.prog 74 #[.agg #[.slice (some ⟨g0, 0, none⟩) 8 k0, .slice (some ⟨g1, 0, none⟩) 8 k1, .slice (some ⟨g2, 0, none⟩) 8 k2], .int .i64 3] w fun e w' => e = .returned (.agg #[.slice (some ⟨g0, 0, none⟩) 8 k0, .slice (some ⟨g1, 0, none⟩) 8 k1, .slice (some ⟨g2, 0, none⟩) 8 k2]) ∧ S8 w' lo g0 g1 g2 (sndH (H, B, L) 3, B, L) ∧ Foot w w' [g0] := by
  have HS := Lib.hid hs
  have HD := Lib.hid hd
  have hg0 := hs.b0
  have hg1 := hs.b1
  have hg2 := hs.b2
  clear hs hd
  have HAA := Lib.hid (show sndA H 3 = (H.set 1 false).set 5 false from (by unfold sndA; rw [if_neg (by omega), if_pos rfl]))
  have HE := Lib.hid (show sndH (H, B, L) 3 = (sndA H 3) by unfold sndH; dsimp only; rw [(show ((3 : Int) - 1).toNat = 2 by decide)]; exact if_pos HD.out)
  rw [HAA.out] at HE
  clear HAA
  have S0 : S8 ((w.setCell ⟨g0, 1, none⟩ (.bool false)).setCell ⟨g0, 5, none⟩ (.bool false)) lo g0 g1 g2 (((H.set 1 false).set 5 false), B, L) := ((HS.out.put0 1 (by omega) false).put0 5 (by omega) false)
  have T0 : Foot w ((w.setCell ⟨g0, 1, none⟩ (.bool false)).setCell ⟨g0, 5, none⟩ (.bool false)) [g0] := (((Foot.refl w [g0]).set (List.mem_singleton.2 rfl) 1 (.bool false)).set (List.mem_singleton.2 rfl) 5 (.bool false))
  have hz0 : ((w.setCell ⟨g0, 1, none⟩ (.bool false)).setCell ⟨g0, 5, none⟩ (.bool false)).heap.size = w.heap.size := by simp only [World.size_setCell]
  have HB0 := Lib.hid (show Below ((w.setCell ⟨g0, 1, none⟩ (.bool false)).setCell ⟨g0, 5, none⟩ (.bool false)).heap.size ((w.setCell ⟨g0, 1, none⟩ (.bool false)).setCell ⟨g0, 5, none⟩ (.bool false)) ((((w.setCell ⟨g0, 1, none⟩ (.bool false)).setCell ⟨g0, 5, none⟩ (.bool false)).alloc (.cells #[.slice (some ⟨g0, 0, none⟩) 8 k0, .slice (some ⟨g1, 0, none⟩) 8 k1, .slice (some ⟨g2, 0, none⟩) 8 k2] 26)).alloc (.cells #[.slice none 0 0, .slice none 0 0, .slice none 0 0] 26)) from ((Below.refl _ _).alloc (Nat.le_refl _) _).alloc (by simp only [World.size_alloc]; omega) _)
  have X0 := Lib.hid ((Box.new ((w.setCell ⟨g0, 1, none⟩ (.bool false)).setCell ⟨g0, 5, none⟩ (.bool false)) #[.slice (some ⟨g0, 0, none⟩) 8 k0, .slice (some ⟨g1, 0, none⟩) 8 k1, .slice (some ⟨g2, 0, none⟩) 8 k2] 26).alloc (.cells #[.slice none 0 0, .slice none 0 0, .slice none 0 0] 26))
  have Z0 := Lib.hid (Box.new (((w.setCell ⟨g0, 1, none⟩ (.bool false)).setCell ⟨g0, 5, none⟩ (.bool false)).alloc (.cells #[.slice (some ⟨g0, 0, none⟩) 8 k0, .slice (some ⟨g1, 0, none⟩) 8 k1, .slice (some ⟨g2, 0, none⟩) 8 k2] 26)) #[.slice none 0 0, .slice none 0 0, .slice none 0 0] 26)
  simp only [World.size_alloc] at Z0
  rw [hz0] at X0 Z0
  have S1 := Lib.hid (S0.below HB0.out)
  have T1 := Lib.hid (T0.trans (Foot.of_below HB0.out [g0]))
  clear S0 T0 HB0 hz0
  obtain ⟨s1, f1⟩ := HS.out.c0 1 (by omega)
  obtain ⟨s5, f5⟩ := HS.out.c0 5 (by omega)
  go_enter Try.func74, Try.ntmps74
  go_wp2_with fail
  refine (l10Does_any (hi := 0) S1.out.X 3 2 (by omega) (by rfl)).mono ?_
  rintro e2 w1 ⟨rfl, hb1⟩
  have S2 := Lib.hid (S1.out.below hb1)
  have T2 := Lib.hid (T1.out.trans (Foot.of_below hb1 [g0]))
  have X2 := Lib.hid (X0.out.below hb1 X0.out.lt)
  have Z2 := Lib.hid (Z0.out.below hb1 Z0.out.lt)
  have hx2 := X2.out.lt
  have hz2 := Z2.out.lt
  clear S1 T1 X0 Z0 hb1
  clear s1 f1
  clear s5 f5
  obtain ⟨s1, f1⟩ := S2.out.c0 2 (by omega)
  obtain ⟨q1, _⟩ := S2.out.c1 2 (by omega)
  dsimp only at q1
  have p0 := X2.out.cell 0
  have p1 := X2.out.cell 1
  have p2 := X2.out.cell 2
  have pf0 := X2.out.frz 0
  have pf1 := X2.out.frz 1
  have pf2 := X2.out.frz 2
  simp at p0 p1 p2
  have z0 := Z2.out.cell 0
  have z1 := Z2.out.cell 1
  have z2 := Z2.out.cell 2
  have e0 := Z2.out.frz 0
  have e1 := Z2.out.frz 1
  have e2 := Z2.out.frz 2
  simp at z0 z1 z2
  rw [HD.out.1]
  rw [HD.out.2] at q1
  go_wp2_with fail
  refine bodyPost_ret (v := .agg #[.slice (some ⟨g0, 0, none⟩) 8 k0, .slice (some ⟨g1, 0, none⟩) 8 k1, .slice (some ⟨g2, 0, none⟩) 8 k2]) (by simp [results, Try.results74, go_sem, z0, z1, z2]) rfl ⟨rfl, ?_, (((T2.out.setNew (z := w.heap.size + 1) (by omega) 0 (.slice (some ⟨g0, 0, none⟩) 8 k0)).setNew (z := w.heap.size + 1) (by omega) 1 (.slice (some ⟨g1, 0, none⟩) 8 k1)).setNew (z := w.heap.size + 1) (by omega) 2 (.slice (some ⟨g2, 0, none⟩) 8 k2))⟩
  have h := (((S2.out.other ⟨w.heap.size + 1, 0, none⟩ (.slice (some ⟨g0, 0, none⟩) 8 k0) (by show w.heap.size + 1 ≠ g0; omega) (by show w.heap.size + 1 ≠ g1; omega) (by show w.heap.size + 1 ≠ g2; omega)).other ⟨w.heap.size + 1, 1, none⟩ (.slice (some ⟨g1, 0, none⟩) 8 k1) (by show w.heap.size + 1 ≠ g0; omega) (by show w.heap.size + 1 ≠ g1; omega) (by show w.heap.size + 1 ≠ g2; omega)).other ⟨w.heap.size + 1, 2, none⟩ (.slice (some ⟨g2, 0, none⟩) 8 k2) (by show w.heap.size + 1 ≠ g0; omega) (by show w.heap.size + 1 ≠ g1; omega) (by show w.heap.size + 1 ≠ g2; omega))
  rw [HE.out]
  exact h
set_option maxHeartbeats 4000000 in
theorem l10Send_2blocked {w : World} {lo g0 g1 g2 k0 k1 k2 : Nat} {H B : List Bool} {L : List Int} (hs : S8 w lo g0 g1 g2 (H, B, L)) (hd : doesI L 3 = 1 ∧ B.getD 2 false = true) :
    Calls Try.prog 74 #[.agg #[.slice (some ⟨g0, 0, none⟩) 8 k0, .slice (some ⟨g1, 0, none⟩) 8 k1, .slice (some ⟨g2, 0, none⟩) 8 k2], .int .i64 3] w fun e w' => e = .returned (.agg #[.slice (some ⟨g0, 0, none⟩) 8 k0, .slice (some ⟨g1, 0, none⟩) 8 k1, .slice (some ⟨g2, 0, none⟩) 8 k2]) ∧ S8 w' lo g0 g1 g2 (sndH (H, B, L) 3, B, L) ∧ Foot w w' [g0] := by
  have HS := Lib.hid hs
  have HD := Lib.hid hd
  have hg0 := hs.b0
  have hg1 := hs.b1
  have hg2 := hs.b2
  clear hs hd
  have HAA := Lib.hid (show sndA H 3 = (H.set 1 false).set 5 false from (by unfold sndA; rw [if_neg (by omega), if_pos rfl]))
  have HE := Lib.hid (show sndH (H, B, L) 3 = (sndA H 3).set 2 true by unfold sndH; dsimp only; rw [(show ((3 : Int) - 1).toNat = 2 by decide)]; exact if_neg (fun h => by rw [HD.out.2] at h; cases h.2))
  rw [HAA.out] at HE
  clear HAA
  have S0 : S8 ((w.setCell ⟨g0, 1, none⟩ (.bool false)).setCell ⟨g0, 5, none⟩ (.bool false)) lo g0 g1 g2 (((H.set 1 false).set 5 false), B, L) := ((HS.out.put0 1 (by omega) false).put0 5 (by omega) false)
  have T0 : Foot w ((w.setCell ⟨g0, 1, none⟩ (.bool false)).setCell ⟨g0, 5, none⟩ (.bool false)) [g0] := (((Foot.refl w [g0]).set (List.mem_singleton.2 rfl) 1 (.bool false)).set (List.mem_singleton.2 rfl) 5 (.bool false))
  have hz0 : ((w.setCell ⟨g0, 1, none⟩ (.bool false)).setCell ⟨g0, 5, none⟩ (.bool false)).heap.size = w.heap.size := by simp only [World.size_setCell]
  have HB0 := Lib.hid (show Below ((w.setCell ⟨g0, 1, none⟩ (.bool false)).setCell ⟨g0, 5, none⟩ (.bool false)).heap.size ((w.setCell ⟨g0, 1, none⟩ (.bool false)).setCell ⟨g0, 5, none⟩ (.bool false)) ((((w.setCell ⟨g0, 1, none⟩ (.bool false)).setCell ⟨g0, 5, none⟩ (.bool false)).alloc (.cells #[.slice (some ⟨g0, 0, none⟩) 8 k0, .slice (some ⟨g1, 0, none⟩) 8 k1, .slice (some ⟨g2, 0, none⟩) 8 k2] 26)).alloc (.cells #[.slice none 0 0, .slice none 0 0, .slice none 0 0] 26)) from ((Below.refl _ _).alloc (Nat.le_refl _) _).alloc (by simp only [World.size_alloc]; omega) _)
  have X0 := Lib.hid ((Box.new ((w.setCell ⟨g0, 1, none⟩ (.bool false)).setCell ⟨g0, 5, none⟩ (.bool false)) #[.slice (some ⟨g0, 0, none⟩) 8 k0, .slice (some ⟨g1, 0, none⟩) 8 k1, .slice (some ⟨g2, 0, none⟩) 8 k2] 26).alloc (.cells #[.slice none 0 0, .slice none 0 0, .slice none 0 0] 26))
  have Z0 := Lib.hid (Box.new (((w.setCell ⟨g0, 1, none⟩ (.bool false)).setCell ⟨g0, 5, none⟩ (.bool false)).alloc (.cells #[.slice (some ⟨g0, 0, none⟩) 8 k0, .slice (some ⟨g1, 0, none⟩) 8 k1, .slice (some ⟨g2, 0, none⟩) 8 k2] 26)) #[.slice none 0 0, .slice none 0 0, .slice none 0 0] 26)
  simp only [World.size_alloc] at Z0
  rw [hz0] at X0 Z0
  have S1 := Lib.hid (S0.below HB0.out)
  have T1 := Lib.hid (T0.trans (Foot.of_below HB0.out [g0]))
  clear S0 T0 HB0 hz0
  obtain ⟨s1, f1⟩ := HS.out.c0 1 (by omega)
  obtain ⟨s5, f5⟩ := HS.out.c0 5 (by omega)
  go_enter Try.func74, Try.ntmps74
  go_wp2_with fail
  refine (l10Does_any (hi := 0) S1.out.X 3 2 (by omega) (by rfl)).mono ?_
  rintro e2 w1 ⟨rfl, hb1⟩
  have S2 := Lib.hid (S1.out.below hb1)
  have T2 := Lib.hid (T1.out.trans (Foot.of_below hb1 [g0]))
  have X2 := Lib.hid (X0.out.below hb1 X0.out.lt)
  have Z2 := Lib.hid (Z0.out.below hb1 Z0.out.lt)
  have hx2 := X2.out.lt
  have hz2 := Z2.out.lt
  clear S1 T1 X0 Z0 hb1
  clear s1 f1
  clear s5 f5
  obtain ⟨s1, f1⟩ := S2.out.c0 2 (by omega)
  obtain ⟨q1, _⟩ := S2.out.c1 2 (by omega)
  dsimp only at q1
  have p0 := X2.out.cell 0
  have p1 := X2.out.cell 1
  have p2 := X2.out.cell 2
  have pf0 := X2.out.frz 0
  have pf1 := X2.out.frz 1
  have pf2 := X2.out.frz 2
  simp at p0 p1 p2
  have z0 := Z2.out.cell 0
  have z1 := Z2.out.cell 1
  have z2 := Z2.out.cell 2
  have e0 := Z2.out.frz 0
  have e1 := Z2.out.frz 1
  have e2 := Z2.out.frz 2
  simp at z0 z1 z2
  rw [HD.out.1]
  rw [HD.out.2] at q1
  go_wp2_with fail
  refine bodyPost_ret (v := .agg #[.slice (some ⟨g0, 0, none⟩) 8 k0, .slice (some ⟨g1, 0, none⟩) 8 k1, .slice (some ⟨g2, 0, none⟩) 8 k2]) (by simp [results, Try.results74, go_sem, z0, z1, z2]) rfl ⟨rfl, ?_, ((((T2.out.set (List.mem_singleton.2 rfl) 2 (.bool true)).setNew (z := w.heap.size + 1) (by omega) 0 (.slice (some ⟨g0, 0, none⟩) 8 k0)).setNew (z := w.heap.size + 1) (by omega) 1 (.slice (some ⟨g1, 0, none⟩) 8 k1)).setNew (z := w.heap.size + 1) (by omega) 2 (.slice (some ⟨g2, 0, none⟩) 8 k2))⟩
  have h := ((((S2.out.put0 2 (by omega) true).other ⟨w.heap.size + 1, 0, none⟩ (.slice (some ⟨g0, 0, none⟩) 8 k0) (by show w.heap.size + 1 ≠ g0; omega) (by show w.heap.size + 1 ≠ g1; omega) (by show w.heap.size + 1 ≠ g2; omega)).other ⟨w.heap.size + 1, 1, none⟩ (.slice (some ⟨g1, 0, none⟩) 8 k1) (by show w.heap.size + 1 ≠ g0; omega) (by show w.heap.size + 1 ≠ g1; omega) (by show w.heap.size + 1 ≠ g2; omega)).other ⟨w.heap.size + 1, 2, none⟩ (.slice (some ⟨g2, 0, none⟩) 8 k2) (by show w.heap.size + 1 ≠ g0; omega) (by show w.heap.size + 1 ≠ g1; omega) (by show w.heap.size + 1 ≠ g2; omega))
  rw [HE.out]
  exact h
set_option maxHeartbeats 4000000 in
theorem l10Send_2yes {w : World} {lo g0 g1 g2 k0 k1 k2 : Nat} {H B : List Bool} {L : List Int} (hs : S8 w lo g0 g1 g2 (H, B, L)) (hd : ¬ doesI L 3 = 1) :
    Calls Try.prog 74 #[.agg #[.slice (some ⟨g0, 0, none⟩) 8 k0, .slice (some ⟨g1, 0, none⟩) 8 k1, .slice (some ⟨g2, 0, none⟩) 8 k2], .int .i64 3] w fun e w' => e = .returned (.agg #[.slice (some ⟨g0, 0, none⟩) 8 k0, .slice (some ⟨g1, 0, none⟩) 8 k1, .slice (some ⟨g2, 0, none⟩) 8 k2]) ∧ S8 w' lo g0 g1 g2 (sndH (H, B, L) 3, B, L) ∧ Foot w w' [g0] := by
  have HS := Lib.hid hs
  have HD := Lib.hid hd
  have hg0 := hs.b0
  have hg1 := hs.b1
  have hg2 := hs.b2
  clear hs hd
  have HAA := Lib.hid (show sndA H 3 = (H.set 1 false).set 5 false from (by unfold sndA; rw [if_neg (by omega), if_pos rfl]))
  have HE := Lib.hid (show sndH (H, B, L) 3 = (sndA H 3).set 2 true by unfold sndH; dsimp only; rw [(show ((3 : Int) - 1).toNat = 2 by decide)]; exact if_neg (fun h => HD.out h.1))
  rw [HAA.out] at HE
  clear HAA
  have S0 : S8 ((w.setCell ⟨g0, 1, none⟩ (.bool false)).setCell ⟨g0, 5, none⟩ (.bool false)) lo g0 g1 g2 (((H.set 1 false).set 5 false), B, L) := ((HS.out.put0 1 (by omega) false).put0 5 (by omega) false)
  have T0 : Foot w ((w.setCell ⟨g0, 1, none⟩ (.bool false)).setCell ⟨g0, 5, none⟩ (.bool false)) [g0] := (((Foot.refl w [g0]).set (List.mem_singleton.2 rfl) 1 (.bool false)).set (List.mem_singleton.2 rfl) 5 (.bool false))
  have hz0 : ((w.setCell ⟨g0, 1, none⟩ (.bool false)).setCell ⟨g0, 5, none⟩ (.bool false)).heap.size = w.heap.size := by simp only [World.size_setCell]
  have HB0 := Lib.hid (show Below ((w.setCell ⟨g0, 1, none⟩ (.bool false)).setCell ⟨g0, 5, none⟩ (.bool false)).heap.size ((w.setCell ⟨g0, 1, none⟩ (.bool false)).setCell ⟨g0, 5, none⟩ (.bool false)) ((((w.setCell ⟨g0, 1, none⟩ (.bool false)).setCell ⟨g0, 5, none⟩ (.bool false)).alloc (.cells #[.slice (some ⟨g0, 0, none⟩) 8 k0, .slice (some ⟨g1, 0, none⟩) 8 k1, .slice (some ⟨g2, 0, none⟩) 8 k2] 26)).alloc (.cells #[.slice none 0 0, .slice none 0 0, .slice none 0 0] 26)) from ((Below.refl _ _).alloc (Nat.le_refl _) _).alloc (by simp only [World.size_alloc]; omega) _)
  have X0 := Lib.hid ((Box.new ((w.setCell ⟨g0, 1, none⟩ (.bool false)).setCell ⟨g0, 5, none⟩ (.bool false)) #[.slice (some ⟨g0, 0, none⟩) 8 k0, .slice (some ⟨g1, 0, none⟩) 8 k1, .slice (some ⟨g2, 0, none⟩) 8 k2] 26).alloc (.cells #[.slice none 0 0, .slice none 0 0, .slice none 0 0] 26))
  have Z0 := Lib.hid (Box.new (((w.setCell ⟨g0, 1, none⟩ (.bool false)).setCell ⟨g0, 5, none⟩ (.bool false)).alloc (.cells #[.slice (some ⟨g0, 0, none⟩) 8 k0, .slice (some ⟨g1, 0, none⟩) 8 k1, .slice (some ⟨g2, 0, none⟩) 8 k2] 26)) #[.slice none 0 0, .slice none 0 0, .slice none 0 0] 26)
  simp only [World.size_alloc] at Z0
  rw [hz0] at X0 Z0
  have S1 := Lib.hid (S0.below HB0.out)
  have T1 := Lib.hid (T0.trans (Foot.of_below HB0.out [g0]))
  clear S0 T0 HB0 hz0
  obtain ⟨s1, f1⟩ := HS.out.c0 1 (by omega)
  obtain ⟨s5, f5⟩ := HS.out.c0 5 (by omega)
  go_enter Try.func74, Try.ntmps74
  go_wp2_with fail
  refine (l10Does_any (hi := 0) S1.out.X 3 2 (by omega) (by rfl)).mono ?_
  rintro e2 w1 ⟨rfl, hb1⟩
  have S2 := Lib.hid (S1.out.below hb1)
  have T2 := Lib.hid (T1.out.trans (Foot.of_below hb1 [g0]))
  have X2 := Lib.hid (X0.out.below hb1 X0.out.lt)
  have Z2 := Lib.hid (Z0.out.below hb1 Z0.out.lt)
  have hx2 := X2.out.lt
  have hz2 := Z2.out.lt
  clear S1 T1 X0 Z0 hb1
  clear s1 f1
  clear s5 f5
  obtain ⟨s1, f1⟩ := S2.out.c0 2 (by omega)
  obtain ⟨q1, _⟩ := S2.out.c1 2 (by omega)
  dsimp only at q1
  have p0 := X2.out.cell 0
  have p1 := X2.out.cell 1
  have p2 := X2.out.cell 2
  have pf0 := X2.out.frz 0
  have pf1 := X2.out.frz 1
  have pf2 := X2.out.frz 2
  simp at p0 p1 p2
  have z0 := Z2.out.cell 0
  have z1 := Z2.out.cell 1
  have z2 := Z2.out.cell 2
  have e0 := Z2.out.frz 0
  have e1 := Z2.out.frz 1
  have e2 := Z2.out.frz 2
  simp at z0 z1 z2
  have h1 := HD.out
  generalize doesI L 3 = y at h1
  have h2 : (y != 1) = true := by simpa using h1
  have h3 : (y == 1) = false := by simpa using h1
  go_wp2_with fail
  refine bodyPost_ret (v := .agg #[.slice (some ⟨g0, 0, none⟩) 8 k0, .slice (some ⟨g1, 0, none⟩) 8 k1, .slice (some ⟨g2, 0, none⟩) 8 k2]) (by simp [results, Try.results74, go_sem, z0, z1, z2]) rfl ⟨rfl, ?_, ((((T2.out.set (List.mem_singleton.2 rfl) 2 (.bool true)).setNew (z := w.heap.size + 1) (by omega) 0 (.slice (some ⟨g0, 0, none⟩) 8 k0)).setNew (z := w.heap.size + 1) (by omega) 1 (.slice (some ⟨g1, 0, none⟩) 8 k1)).setNew (z := w.heap.size + 1) (by omega) 2 (.slice (some ⟨g2, 0, none⟩) 8 k2))⟩
  have h := ((((S2.out.put0 2 (by omega) true).other ⟨w.heap.size + 1, 0, none⟩ (.slice (some ⟨g0, 0, none⟩) 8 k0) (by show w.heap.size + 1 ≠ g0; omega) (by show w.heap.size + 1 ≠ g1; omega) (by show w.heap.size + 1 ≠ g2; omega)).other ⟨w.heap.size + 1, 1, none⟩ (.slice (some ⟨g1, 0, none⟩) 8 k1) (by show w.heap.size + 1 ≠ g0; omega) (by show w.heap.size + 1 ≠ g1; omega) (by show w.heap.size + 1 ≠ g2; omega)).other ⟨w.heap.size + 1, 2, none⟩ (.slice (some ⟨g2, 0, none⟩) 8 k2) (by show w.heap.size + 1 ≠ g0; omega) (by show w.heap.size + 1 ≠ g1; omega) (by show w.heap.size + 1 ≠ g2; omega))
  rw [HE.out]
  exact h
set_option maxHeartbeats 4000000 in
theorem l10Send_3no {w : World} {lo g0 g1 g2 k0 k1 k2 : Nat} {H B : List Bool} {L : List Int} (hs : S8 w lo g0 g1 g2 (H, B, L)) (n : Int) (k : Nat) (hk : k < 8) (e : n = (k : Int) + 1) (h2 : ¬ n = 2) (h6 : ¬ n = 6) (h3 : ¬ n = 3) (hd : doesI L n = 1 ∧ B.getD k false = false) :
    Calls Try.prog 74 #[.agg #[.slice (some ⟨g0, 0, none⟩) 8 k0, .slice (some ⟨g1, 0, none⟩) 8 k1, .slice (some ⟨g2, 0, none⟩) 8 k2], .int .i64 n] w fun e w' => e = .returned (.agg #[.slice (some ⟨g0, 0, none⟩) 8 k0, .slice (some ⟨g1, 0, none⟩) 8 k1, .slice (some ⟨g2, 0, none⟩) 8 k2]) ∧ S8 w' lo g0 g1 g2 (sndH (H, B, L) n, B, L) ∧ Foot w w' [g0] := by
  have HS := Lib.hid hs
  have HD := Lib.hid hd
  have hg0 := hs.b0
  have hg1 := hs.b1
  have hg2 := hs.b2
  clear hs hd
  have hk0 : (n - 1).toNat = k := by omega
  have hk1 : IntKind.i64.wrap (n - 1) = (k : Int) := by rw [IntWalk.i64_in _ (by omega)]; omega
  have hk3 : (0 : Int) ≤ k := by omega
  have hk4 : (k : Int) < 8 := by omega
  have b2 : (n == 2) = false := by simpa using h2
  have b3 : (n == 3) = false := by simpa using h3
  have b6 : (n == 6) = false := by simpa using h6
  have HAA := Lib.hid (show sndA H n = H from (by unfold sndA; rw [if_neg (by omega), if_neg (by omega)]))
  have HE := Lib.hid (show sndH (H, B, L) n = (sndA H n) by unfold sndH; dsimp only; rw [hk0]; exact if_pos HD.out)
  rw [HAA.out] at HE
  clear HAA
  have S0 : S8 w lo g0 g1 g2 (H, B, L) := HS.out
  have T0 : Foot w w [g0] := (Foot.refl w [g0])
  have HB0 := Lib.hid (show Below w.heap.size w ((w.alloc (.cells #[.slice (some ⟨g0, 0, none⟩) 8 k0, .slice (some ⟨g1, 0, none⟩) 8 k1, .slice (some ⟨g2, 0, none⟩) 8 k2] 26)).alloc (.cells #[.slice none 0 0, .slice none 0 0, .slice none 0 0] 26)) from ((Below.refl _ _).alloc (Nat.le_refl _) _).alloc (by simp only [World.size_alloc]; omega) _)
  have X0 := Lib.hid ((Box.new w #[.slice (some ⟨g0, 0, none⟩) 8 k0, .slice (some ⟨g1, 0, none⟩) 8 k1, .slice (some ⟨g2, 0, none⟩) 8 k2] 26).alloc (.cells #[.slice none 0 0, .slice none 0 0, .slice none 0 0] 26))
  have Z0 := Lib.hid (Box.new (w.alloc (.cells #[.slice (some ⟨g0, 0, none⟩) 8 k0, .slice (some ⟨g1, 0, none⟩) 8 k1, .slice (some ⟨g2, 0, none⟩) 8 k2] 26)) #[.slice none 0 0, .slice none 0 0, .slice none 0 0] 26)
  simp only [World.size_alloc] at Z0
  have S1 := Lib.hid (S0.below HB0.out)
  have T1 := Lib.hid (T0.trans (Foot.of_below HB0.out [g0]))
  clear S0 T0 HB0
  have HEQ := Lib.hid e
  clear e hk0 h2 h3 h6
  go_enter Try.func74, Try.ntmps74
  go_wp2_with fail
  refine (l10Does_any (hi := 0) S1.out.X n k hk HEQ.out).mono ?_
  rintro e2 w1 ⟨rfl, hb1⟩
  have S2 := Lib.hid (S1.out.below hb1)
  have T2 := Lib.hid (T1.out.trans (Foot.of_below hb1 [g0]))
  have X2 := Lib.hid (X0.out.below hb1 X0.out.lt)
  have Z2 := Lib.hid (Z0.out.below hb1 Z0.out.lt)
  have hx2 := X2.out.lt
  have hz2 := Z2.out.lt
  clear S1 T1 X0 Z0 hb1
  obtain ⟨s1, f1⟩ := S2.out.c0 k hk
  obtain ⟨q1, _⟩ := S2.out.c1 k hk
  dsimp only at q1
  have p0 := X2.out.cell 0
  have p1 := X2.out.cell 1
  have p2 := X2.out.cell 2
  have pf0 := X2.out.frz 0
  have pf1 := X2.out.frz 1
  have pf2 := X2.out.frz 2
  simp at p0 p1 p2
  have z0 := Z2.out.cell 0
  have z1 := Z2.out.cell 1
  have z2 := Z2.out.cell 2
  have e0 := Z2.out.frz 0
  have e1 := Z2.out.frz 1
  have e2 := Z2.out.frz 2
  simp at z0 z1 z2
  rw [HD.out.1]
  rw [HD.out.2] at q1
  go_wp2_with fail
  refine bodyPost_ret (v := .agg #[.slice (some ⟨g0, 0, none⟩) 8 k0, .slice (some ⟨g1, 0, none⟩) 8 k1, .slice (some ⟨g2, 0, none⟩) 8 k2]) (by simp [results, Try.results74, go_sem, z0, z1, z2]) rfl ⟨rfl, ?_, (((T2.out.setNew (z := w.heap.size + 1) (by omega) 0 (.slice (some ⟨g0, 0, none⟩) 8 k0)).setNew (z := w.heap.size + 1) (by omega) 1 (.slice (some ⟨g1, 0, none⟩) 8 k1)).setNew (z := w.heap.size + 1) (by omega) 2 (.slice (some ⟨g2, 0, none⟩) 8 k2))⟩
  have h := (((S2.out.other ⟨w.heap.size + 1, 0, none⟩ (.slice (some ⟨g0, 0, none⟩) 8 k0) (by show w.heap.size + 1 ≠ g0; omega) (by show w.heap.size + 1 ≠ g1; omega) (by show w.heap.size + 1 ≠ g2; omega)).other ⟨w.heap.size + 1, 1, none⟩ (.slice (some ⟨g1, 0, none⟩) 8 k1) (by show w.heap.size + 1 ≠ g0; omega) (by show w.heap.size + 1 ≠ g1; omega) (by show w.heap.size + 1 ≠ g2; omega)).other ⟨w.heap.size + 1, 2, none⟩ (.slice (some ⟨g2, 0, none⟩) 8 k2) (by show w.heap.size + 1 ≠ g0; omega) (by show w.heap.size + 1 ≠ g1; omega) (by show w.heap.size + 1 ≠ g2; omega))
  rw [HE.out]
  exact h
set_option maxHeartbeats 4000000 in
theorem l10Send_3blocked {w : World} {lo g0 g1 g2 k0 k1 k2 : Nat} {H B : List Bool} {L : List Int} (hs : S8 w lo g0 g1 g2 (H, B, L)) (n : Int) (k : Nat) (hk : k < 8) (e : n = (k : Int) + 1) (h2 : ¬ n = 2) (h6 : ¬ n = 6) (h3 : ¬ n = 3) (hd : doesI L n = 1 ∧ B.getD k false = true) :
    Calls Try.prog 74 #[.agg #[.slice (some ⟨g0, 0, none⟩) 8 k0, .slice (some ⟨g1, 0, none⟩) 8 k1, .slice (some ⟨g2, 0, none⟩) 8 k2], .int .i64 n] w fun e w' => e = .returned (.agg #[.slice (some ⟨g0, 0, none⟩) 8 k0, .slice (some ⟨g1, 0, none⟩) 8 k1, .slice (some ⟨g2, 0, none⟩) 8 k2]) ∧ S8 w' lo g0 g1 g2 (sndH (H, B, L) n, B, L) ∧ Foot w w' [g0] := by
  have HS := Lib.hid hs
  have HD := Lib.hid hd
  have hg0 := hs.b0
  have hg1 := hs.b1
  have hg2 := hs.b2
  clear hs hd
  have hk0 : (n - 1).toNat = k := by omega
  have hk1 : IntKind.i64.wrap (n - 1) = (k : Int) := by rw [IntWalk.i64_in _ (by omega)]; omega
  have hk3 : (0 : Int) ≤ k := by omega
  have hk4 : (k : Int) < 8 := by omega
  have b2 : (n == 2) = false := by simpa using h2
  have b3 : (n == 3) = false := by simpa using h3
  have b6 : (n == 6) = false := by simpa using h6
  have HAA := Lib.hid (show sndA H n = H from (by unfold sndA; rw [if_neg (by omega), if_neg (by omega)]))
  have HE := Lib.hid (show sndH (H, B, L) n = (sndA H n).set k true by unfold sndH; dsimp only; rw [hk0]; exact if_neg (fun h => by rw [HD.out.2] at h; cases h.2))
  rw [HAA.out] at HE
  clear HAA
  have S0 : S8 w lo g0 g1 g2 (H, B, L) := HS.out
  have T0 : Foot w w [g0] := (Foot.refl w [g0])
  have HB0 := Lib.hid (show Below w.heap.size w ((w.alloc (.cells #[.slice (some ⟨g0, 0, none⟩) 8 k0, .slice (some ⟨g1, 0, none⟩) 8 k1, .slice (some ⟨g2, 0, none⟩) 8 k2] 26)).alloc (.cells #[.slice none 0 0, .slice none 0 0, .slice none 0 0] 26)) from ((Below.refl _ _).alloc (Nat.le_refl _) _).alloc (by simp only [World.size_alloc]; omega) _)
  have X0 := Lib.hid ((Box.new w #[.slice (some ⟨g0, 0, none⟩) 8 k0, .slice (some ⟨g1, 0, none⟩) 8 k1, .slice (some ⟨g2, 0, none⟩) 8 k2] 26).alloc (.cells #[.slice none 0 0, .slice none 0 0, .slice none 0 0] 26))
  have Z0 := Lib.hid (Box.new (w.alloc (.cells #[.slice (some ⟨g0, 0, none⟩) 8 k0, .slice (some ⟨g1, 0, none⟩) 8 k1, .slice (some ⟨g2, 0, none⟩) 8 k2] 26)) #[.slice none 0 0, .slice none 0 0, .slice none 0 0] 26)
  simp only [World.size_alloc] at Z0
  have S1 := Lib.hid (S0.below HB0.out)
  have T1 := Lib.hid (T0.trans (Foot.of_below HB0.out [g0]))
  clear S0 T0 HB0
  have HEQ := Lib.hid e
  clear e hk0 h2 h3 h6
  go_enter Try.func74, Try.ntmps74
  go_wp2_with fail
  refine (l10Does_any (hi := 0) S1.out.X n k hk HEQ.out).mono ?_
  rintro e2 w1 ⟨rfl, hb1⟩
  have S2 := Lib.hid (S1.out.below hb1)
  have T2 := Lib.hid (T1.out.trans (Foot.of_below hb1 [g0]))
  have X2 := Lib.hid (X0.out.below hb1 X0.out.lt)
  have Z2 := Lib.hid (Z0.out.below hb1 Z0.out.lt)
  have hx2 := X2.out.lt
  have hz2 := Z2.out.lt
  clear S1 T1 X0 Z0 hb1
  obtain ⟨s1, f1⟩ := S2.out.c0 k hk
  obtain ⟨q1, _⟩ := S2.out.c1 k hk
  dsimp only at q1
  have p0 := X2.out.cell 0
  have p1 := X2.out.cell 1
  have p2 := X2.out.cell 2
  have pf0 := X2.out.frz 0
  have pf1 := X2.out.frz 1
  have pf2 := X2.out.frz 2
  simp at p0 p1 p2
  have z0 := Z2.out.cell 0
  have z1 := Z2.out.cell 1
  have z2 := Z2.out.cell 2
  have e0 := Z2.out.frz 0
  have e1 := Z2.out.frz 1
  have e2 := Z2.out.frz 2
  simp at z0 z1 z2
  rw [HD.out.1]
  rw [HD.out.2] at q1
  go_wp2_with fail
  refine bodyPost_ret (v := .agg #[.slice (some ⟨g0, 0, none⟩) 8 k0, .slice (some ⟨g1, 0, none⟩) 8 k1, .slice (some ⟨g2, 0, none⟩) 8 k2]) (by simp [results, Try.results74, go_sem, z0, z1, z2]) rfl ⟨rfl, ?_, ((((T2.out.set (List.mem_singleton.2 rfl) k (.bool true)).setNew (z := w.heap.size + 1) (by omega) 0 (.slice (some ⟨g0, 0, none⟩) 8 k0)).setNew (z := w.heap.size + 1) (by omega) 1 (.slice (some ⟨g1, 0, none⟩) 8 k1)).setNew (z := w.heap.size + 1) (by omega) 2 (.slice (some ⟨g2, 0, none⟩) 8 k2))⟩
  have h := ((((S2.out.put0 k hk true).other ⟨w.heap.size + 1, 0, none⟩ (.slice (some ⟨g0, 0, none⟩) 8 k0) (by show w.heap.size + 1 ≠ g0; omega) (by show w.heap.size + 1 ≠ g1; omega) (by show w.heap.size + 1 ≠ g2; omega)).other ⟨w.heap.size + 1, 1, none⟩ (.slice (some ⟨g1, 0, none⟩) 8 k1) (by show w.heap.size + 1 ≠ g0; omega) (by show w.heap.size + 1 ≠ g1; omega) (by show w.heap.size + 1 ≠ g2; omega)).other ⟨w.heap.size + 1, 2, none⟩ (.slice (some ⟨g2, 0, none⟩) 8 k2) (by show w.heap.size + 1 ≠ g0; omega) (by show w.heap.size + 1 ≠ g1; omega) (by show w.heap.size + 1 ≠ g2; omega))
  rw [HE.out]
  exact h
set_option maxHeartbeats 4000000 in
theorem l10Send_3yes {w : World} {lo g0 g1 g2 k0 k1 k2 : Nat} {H B : List Bool} {L : List Int} (hs : S8 w lo g0 g1 g2 (H, B, L)) (n : Int) (k : Nat) (hk : k < 8) (e : n = (k : Int) + 1) (h2 : ¬ n = 2) (h6 : ¬ n = 6) (h3 : ¬ n = 3) (hd : ¬ doesI L n = 1) :
    Calls Try.prog 74 #[.agg #[.slice (some ⟨g0, 0, none⟩) 8 k0, .slice (some ⟨g1, 0, none⟩) 8 k1, .slice (some ⟨g2, 0, none⟩) 8 k2], .int .i64 n] w fun e w' => e = .returned (.agg #[.slice (some ⟨g0, 0, none⟩) 8 k0, .slice (some ⟨g1, 0, none⟩) 8 k1, .slice (some ⟨g2, 0, none⟩) 8 k2]) ∧ S8 w' lo g0 g1 g2 (sndH (H, B, L) n, B, L) ∧ Foot w w' [g0] := by
  have HS := Lib.hid hs
  have HD := Lib.hid hd
  have hg0 := hs.b0
  have hg1 := hs.b1
  have hg2 := hs.b2
  clear hs hd
  have hk0 : (n - 1).toNat = k := by omega
  have hk1 : IntKind.i64.wrap (n - 1) = (k : Int) := by rw [IntWalk.i64_in _ (by omega)]; omega
  have hk3 : (0 : Int) ≤ k := by omega
  have hk4 : (k : Int) < 8 := by omega
  have b2 : (n == 2) = false := by simpa using h2
  have b3 : (n == 3) = false := by simpa using h3
  have b6 : (n == 6) = false := by simpa using h6
  have HAA := Lib.hid (show sndA H n = H from (by unfold sndA; rw [if_neg (by omega), if_neg (by omega)]))
  have HE := Lib.hid (show sndH (H, B, L) n = (sndA H n).set k true by unfold sndH; dsimp only; rw [hk0]; exact if_neg (fun h => HD.out h.1))
  rw [HAA.out] at HE
  clear HAA
  have S0 : S8 w lo g0 g1 g2 (H, B, L) := HS.out
  have T0 : Foot w w [g0] := (Foot.refl w [g0])
  have HB0 := Lib.hid (show Below w.heap.size w ((w.alloc (.cells #[.slice (some ⟨g0, 0, none⟩) 8 k0, .slice (some ⟨g1, 0, none⟩) 8 k1, .slice (some ⟨g2, 0, none⟩) 8 k2] 26)).alloc (.cells #[.slice none 0 0, .slice none 0 0, .slice none 0 0] 26)) from ((Below.refl _ _).alloc (Nat.le_refl _) _).alloc (by simp only [World.size_alloc]; omega) _)
  have X0 := Lib.hid ((Box.new w #[.slice (some ⟨g0, 0, none⟩) 8 k0, .slice (some ⟨g1, 0, none⟩) 8 k1, .slice (some ⟨g2, 0, none⟩) 8 k2] 26).alloc (.cells #[.slice none 0 0, .slice none 0 0, .slice none 0 0] 26))
  have Z0 := Lib.hid (Box.new (w.alloc (.cells #[.slice (some ⟨g0, 0, none⟩) 8 k0, .slice (some ⟨g1, 0, none⟩) 8 k1, .slice (some ⟨g2, 0, none⟩) 8 k2] 26)) #[.slice none 0 0, .slice none 0 0, .slice none 0 0] 26)
  simp only [World.size_alloc] at Z0
  have S1 := Lib.hid (S0.below HB0.out)
  have T1 := Lib.hid (T0.trans (Foot.of_below HB0.out [g0]))
  clear S0 T0 HB0
  have HEQ := Lib.hid e
  clear e hk0 h2 h3 h6
  go_enter Try.func74, Try.ntmps74
  go_wp2_with fail
  refine (l10Does_any (hi := 0) S1.out.X n k hk HEQ.out).mono ?_
  rintro e2 w1 ⟨rfl, hb1⟩
  have S2 := Lib.hid (S1.out.below hb1)
  have T2 := Lib.hid (T1.out.trans (Foot.of_below hb1 [g0]))
  have X2 := Lib.hid (X0.out.below hb1 X0.out.lt)
  have Z2 := Lib.hid (Z0.out.below hb1 Z0.out.lt)
  have hx2 := X2.out.lt
  have hz2 := Z2.out.lt
  clear S1 T1 X0 Z0 hb1
  obtain ⟨s1, f1⟩ := S2.out.c0 k hk
  obtain ⟨q1, _⟩ := S2.out.c1 k hk
  dsimp only at q1
  have p0 := X2.out.cell 0
  have p1 := X2.out.cell 1
  have p2 := X2.out.cell 2
  have pf0 := X2.out.frz 0
  have pf1 := X2.out.frz 1
  have pf2 := X2.out.frz 2
  simp at p0 p1 p2
  have z0 := Z2.out.cell 0
  have z1 := Z2.out.cell 1
  have z2 := Z2.out.cell 2
  have e0 := Z2.out.frz 0
  have e1 := Z2.out.frz 1
  have e2 := Z2.out.frz 2
  simp at z0 z1 z2
  have h1 := HD.out
  generalize doesI L n = y at h1
  have h2 : (y != 1) = true := by simpa using h1
  have h3 : (y == 1) = false := by simpa using h1
  go_wp2_with fail
  refine bodyPost_ret (v := .agg #[.slice (some ⟨g0, 0, none⟩) 8 k0, .slice (some ⟨g1, 0, none⟩) 8 k1, .slice (some ⟨g2, 0, none⟩) 8 k2]) (by simp [results, Try.results74, go_sem, z0, z1, z2]) rfl ⟨rfl, ?_, ((((T2.out.set (List.mem_singleton.2 rfl) k (.bool true)).setNew (z := w.heap.size + 1) (by omega) 0 (.slice (some ⟨g0, 0, none⟩) 8 k0)).setNew (z := w.heap.size + 1) (by omega) 1 (.slice (some ⟨g1, 0, none⟩) 8 k1)).setNew (z := w.heap.size + 1) (by omega) 2 (.slice (some ⟨g2, 0, none⟩) 8 k2))⟩
  have h := ((((S2.out.put0 k hk true).other ⟨w.heap.size + 1, 0, none⟩ (.slice (some ⟨g0, 0, none⟩) 8 k0) (by show w.heap.size + 1 ≠ g0; omega) (by show w.heap.size + 1 ≠ g1; omega) (by show w.heap.size + 1 ≠ g2; omega)).other ⟨w.heap.size + 1, 1, none⟩ (.slice (some ⟨g1, 0, none⟩) 8 k1) (by show w.heap.size + 1 ≠ g0; omega) (by show w.heap.size + 1 ≠ g1; omega) (by show w.heap.size + 1 ≠ g2; omega)).other ⟨w.heap.size + 1, 2, none⟩ (.slice (some ⟨g2, 0, none⟩) 8 k2) (by show w.heap.size + 1 ≠ g0; omega) (by show w.heap.size + 1 ≠ g1; omega) (by show w.heap.size + 1 ≠ g2; omega))
  rw [HE.out]
  exact h
theorem l10Send_any {w : World} {lo g0 g1 g2 k0 k1 k2 : Nat} {H B : List Bool} {L : List Int} (hs : S8 w lo g0 g1 g2 (H, B, L)) (n : Int) (k : Nat) (hk : k < 8) (e : n = (k : Int) + 1) :
    Calls Try.prog 74 #[.agg #[.slice (some ⟨g0, 0, none⟩) 8 k0, .slice (some ⟨g1, 0, none⟩) 8 k1, .slice (some ⟨g2, 0, none⟩) 8 k2], .int .i64 n] w fun e w' => e = .returned (.agg #[.slice (some ⟨g0, 0, none⟩) 8 k0, .slice (some ⟨g1, 0, none⟩) 8 k1, .slice (some ⟨g2, 0, none⟩) 8 k2]) ∧ S8 w' lo g0 g1 g2 (sndH (H, B, L) n, B, L) ∧ Foot w w' [g0] := by
  by_cases h2 : n = 2
  · subst h2
    by_cases hd1 : doesI L 2 = 1
    · by_cases hd2 : B.getD 1 false = false
      · exact l10Send_0no hs ⟨hd1, hd2⟩
      · exact l10Send_0blocked hs ⟨hd1, by simpa using hd2⟩
    · exact l10Send_0yes hs hd1
  by_cases h6 : n = 6
  · subst h6
    by_cases hd1 : doesI L 6 = 1
    · by_cases hd2 : B.getD 5 false = false
      · exact l10Send_1no hs ⟨hd1, hd2⟩
      · exact l10Send_1blocked hs ⟨hd1, by simpa using hd2⟩
    · exact l10Send_1yes hs hd1
  by_cases h3 : n = 3
  · subst h3
    by_cases hd1 : doesI L 3 = 1
    · by_cases hd2 : B.getD 2 false = false
      · exact l10Send_2no hs ⟨hd1, hd2⟩
      · exact l10Send_2blocked hs ⟨hd1, by simpa using hd2⟩
    · exact l10Send_2yes hs hd1
  by_cases hd1 : doesI L n = 1
  · by_cases hd2 : B.getD k false = false
    · exact l10Send_3no hs n k hk e h2 h6 h3 ⟨hd1, hd2⟩
    · exact l10Send_3blocked hs n k hk e h2 h6 h3 ⟨hd1, by simpa using hd2⟩
  · exact l10Send_3yes hs n k hk e h2 h6 h3 hd1
end Go.Proofs.Ytncinocpdeokgaa
