/-
  The model's QueueRun.
-/
import Derived.Test.YtagggajlpmdpdaaQS9
import Derived.Test.YtagggajlpmdpdaaQPure3
import Derived.Test.YtagggajlpmdpdaaTfInt
namespace Go.Proofs.Ytagggajlpmdpdaa
open Go.RowKit

theorem own_foot {w w' : World} {fp : List Nat} {base n size : Nat} {t : TypeId} {v : Value} {xs : List Value} (h : w.ownsRow base t size v n xs) (ht : Foot w w' fp) (hf : ∀ b ∈ fp, b < base) : w'.ownsRow base t size v n xs := by
  refine ⟨h.1, ?_⟩
  rcases h.2 with h2 | ⟨g, cap, cur, e, hg, hhp, h3⟩
  · exact .inl h2
  · obtain ⟨hlt, _⟩ := Array.getElem?_eq_some_iff.1 hhp
    exact .inr ⟨g, cap, cur, e, hg, (ht.block g hlt fun hb => by have := hf g hb; omega).trans hhp, h3⟩
theorem own_keep {w w' : World} {base n size : Nat} {t : TypeId} {v : Value} {xs : List Value} (h : w.ownsRow base t size v n xs) (hb : Below w.heap.size w w') : w'.ownsRow base t size v n xs := by
  refine ⟨h.1, ?_⟩
  rcases h.2 with h2 | ⟨g, cap, cur, e, hg, hhp, h3⟩
  · exact .inl h2
  · obtain ⟨hlt, _⟩ := Array.getElem?_eq_some_iff.1 hhp
    exact .inr ⟨g, cap, cur, e, hg, (hb.block g hlt).trans hhp, h3⟩
theorem own_off {w : World} {base n size : Nat} {t : TypeId} {v : Value} {xs : List Value} (h : w.ownsRow base t size v n xs) {a : Addr} (ha : a.block < base) (u : Value) : (w.setCell a u).ownsRow base t size v n xs := by
  refine ⟨h.1, ?_⟩
  rcases h.2 with h2 | ⟨g, cap, cur, e, hg, hhp, h3⟩
  · exact .inl h2
  · exact .inr ⟨g, cap, cur, e, hg, (heap_setCell_other _ _ _ _ (by omega)).trans hhp, h3⟩
theorem own_rowI {w : World} {base : Nat} {t : TypeId} {v : Value} {l : List Int} (h : w.ownsRow base t 1 v l.length (l.map (Value.int .i64))) : ∃ A c fp, v = .slice A l.length c ∧ RowM elI w fp A l.length l ∧ ∀ b ∈ fp, base ≤ b ∧ b < w.heap.size := by
  have he : l.map (Value.int .i64) = l.flatMap elI.C := by
    clear h
    induction l with
    | nil => rfl
    | cons a l ih => rw [List.map_cons, List.flatMap_cons, ih]; rfl
  rw [he] at h
  rcases h.2 with ⟨rfl, h0⟩ | ⟨g, cap, cur, rfl, h3⟩
  · exact ⟨none, 0, [], by rw [h0], fun hn => by omega, fun b hb => absurd hb List.not_mem_nil⟩
  · refine ⟨some ⟨g, 0, none⟩, cap, [g], rfl, RowM.of_owns (E := elI) h rfl, fun b hb => ?_⟩
    rw [List.mem_singleton] at hb
    subst hb
    exact World.ownsRow.lt h b rfl

section
variable {w : World}
set_option maxHeartbeats 2000000 in
set_option maxRecDepth 100000 in
theorem queueRun_s : QRunS 47 := by
  intro w hi x0 x1 D m h hs hcq
  obtain ⟨A, n, c, hcs, hl, hn, hr⟩ := tyQueue_R h
  simp only [List.cons.injEq, and_true] at hcs
  obtain ⟨rfl, rfl⟩ := hcs
  obtain ⟨l, F⟩ := D
  dsimp only at hl hr ⊢
  have HR0 := Lib.hid h
  have HL := Lib.hid hl
  have HRT := Lib.hid (rowT hr)
  unfold maxLen at hn
  clear h hr hl
  unfold smallQueue at hs
  dsimp only at hs
  have HS := Lib.hid (show smallQueue (l, F) from hs)
  clear hs hcq
  have HRQ := Lib.hid (show runQ (l, F) m = if (qB (l, F) && inB m 0 1000) = true then runO (l, F) m.toNat else none from rfl)
  obtain ⟨i0, hi0, hz0, hz1, hz2⟩ := infoInt
  have HI := Lib.hid hi0
  have HZ0 := Lib.hid hz0
  have HZ1 := Lib.hid hz1
  have HZ2 := Lib.hid hz2
  clear hi0 hz0 hz1 hz2
  have X0 := Lib.hid ((Box.new w #[.slice A n c, .int .i64 F] 25).alloc (.cells #[.slice none 0 0, .int .i64 0] 25))
  have Z0 := Lib.hid (Box.new (w.alloc (.cells #[.slice A n c, .int .i64 F] 25)) #[.slice none 0 0, .int .i64 0] 25)
  simp only [World.size_alloc] at Z0
  have HB0 := Lib.hid (show Below w.heap.size w ((w.alloc (.cells #[.slice A n c, .int .i64 F] 25)).alloc (.cells #[.slice none 0 0, .int .i64 0] 25)) from ((Below.refl _ _).alloc (Nat.le_refl _) _).alloc (by simp only [World.size_alloc]; omega) _)
  go_enter Try.func47, Try.ntmps47
  go_wp2_with fail
  refine (queueOk_any (Ty.below_w HR0.out HB0.out)).mono ?_
  rintro e w1 ⟨rfl, hb1⟩
  have HB1 := Lib.hid (HB0.out.trans (hb1.mono HB0.out.size))
  have X1 := Lib.hid (X0.out.below hb1 X0.out.lt)
  have Z1 := Lib.hid (Z0.out.below hb1 Z0.out.lt)
  clear hb1
  have p0 := X1.out.cell 0
  have p1 := X1.out.cell 1
  have pl := X1.out.lt
  have z0 := Z1.out.cell 0
  have z1 := Z1.out.cell 1
  have e0 := Z1.out.frz 0
  have e1 := Z1.out.frz 1
  have zl := Z1.out.lt
  simp at p0 p1 z0 z1
  by_cases hq : qB (l, F) = true
  case neg =>
    have hq' : qB (l, F) = false := by simpa using hq
    have HNO := Lib.hid (show runQ (l, F) m = none by rw [HRQ.out, hq']; rfl)
    rw [hq']
    clear hq hq'
    have HV := Lib.hid (show (runQ (l, F) m).isSome = false ∧ runD (l, F) m = qZ ∧ runI (l, F) m = [] from ⟨by rw [HNO.out]; rfl, by unfold runD; rw [HNO.out], by unfold runI; rw [HNO.out]⟩)
    have ZB := Lib.hid (((Z1.out.set 0 (.slice none 0 0)).set 1 (.int .i64 0)).alloc (.cells #[] 3))
    simp at ZB
    have HBB := Lib.hid (show Below w.heap.size w (((w1.setCell ⟨w.heap.size + 1, 0, none⟩ (.slice none 0 0)).setCell ⟨w.heap.size + 1, 1, none⟩ (.int .i64 0)).alloc (.cells #[] 3)) from ((HB1.out.setCell (p := ⟨w.heap.size + 1, 0, none⟩) (Nat.le_add_right _ _) (.slice none 0 0)).setCell (p := ⟨w.heap.size + 1, 1, none⟩) (Nat.le_add_right _ _) (.int .i64 0)).alloc (by simp only [World.size_setCell]; exact HB1.out.size) _)
    go_wp2_with fail
    generalize (((w1.setCell ⟨w.heap.size + 1, 0, none⟩ (.slice none 0 0)).setCell ⟨w.heap.size + 1, 1, none⟩ (.int .i64 0)).alloc (.cells #[] 3)) = w9 at ZB HBB ⊢
    generalize w1.heap.size = N
    have zz0 := ZB.out.cell 0
    have zz1 := ZB.out.cell 1
    simp at zz0 zz1
    exact bodyPost_ret (v := .tuple #[.agg #[.slice none 0 0, .int .i64 0], .slice (some ⟨N, 0, none⟩) 0 0, .bool false]) (by simp [results, Try.results47, go_sem, zz0, zz1]) rfl (show RunS _ _ _ _ _ from ⟨_, _, _, _, _, by rw [HV.out.1], by rw [HV.out.2.1]; exact qzR, fun h => absurd h (Nat.lt_irrefl 0), by rw [HV.out.2.2]; rfl, HBB.out⟩)
  have HQ := Lib.hid hq
  rw [hq]
  clear hq
  go_wp2_with fail
  refine (l6In_any m 0 1000 _).mono ?_
  rintro e w9 ⟨rfl, rfl⟩
  by_cases h7 : inB m 0 1000 = true
  case neg =>
    have h7' : inB m 0 1000 = false := by simpa using h7
    have HNO := Lib.hid (show runQ (l, F) m = none by rw [HRQ.out, HQ.out, h7']; rfl)
    rw [h7']
    clear h7 h7'
    have HV := Lib.hid (show (runQ (l, F) m).isSome = false ∧ runD (l, F) m = qZ ∧ runI (l, F) m = [] from ⟨by rw [HNO.out]; rfl, by unfold runD; rw [HNO.out], by unfold runI; rw [HNO.out]⟩)
    have ZB := Lib.hid (((Z1.out.set 0 (.slice none 0 0)).set 1 (.int .i64 0)).alloc (.cells #[] 3))
    simp at ZB
    have HBB := Lib.hid (show Below w.heap.size w (((w1.setCell ⟨w.heap.size + 1, 0, none⟩ (.slice none 0 0)).setCell ⟨w.heap.size + 1, 1, none⟩ (.int .i64 0)).alloc (.cells #[] 3)) from ((HB1.out.setCell (p := ⟨w.heap.size + 1, 0, none⟩) (Nat.le_add_right _ _) (.slice none 0 0)).setCell (p := ⟨w.heap.size + 1, 1, none⟩) (Nat.le_add_right _ _) (.int .i64 0)).alloc (by simp only [World.size_setCell]; exact HB1.out.size) _)
    go_wp2_with fail
    generalize (((w1.setCell ⟨w.heap.size + 1, 0, none⟩ (.slice none 0 0)).setCell ⟨w.heap.size + 1, 1, none⟩ (.int .i64 0)).alloc (.cells #[] 3)) = w9 at ZB HBB ⊢
    generalize w1.heap.size = N
    have zz0 := ZB.out.cell 0
    have zz1 := ZB.out.cell 1
    simp at zz0 zz1
    exact bodyPost_ret (v := .tuple #[.agg #[.slice none 0 0, .int .i64 0], .slice (some ⟨N, 0, none⟩) 0 0, .bool false]) (by simp [results, Try.results47, go_sem, zz0, zz1]) rfl (show RunS _ _ _ _ _ from ⟨_, _, _, _, _, by rw [HV.out.1], by rw [HV.out.2.1]; exact qzR, fun h => absurd h (Nat.lt_irrefl 0), by rw [HV.out.2.2]; rfl, HBB.out⟩)
  have hm7 := of_inB h7
  obtain ⟨N, rfl⟩ : ∃ N : Nat, m = N := ⟨m.toNat, by omega⟩
  have HRN := Lib.hid (show runQ (l, F) (N : Int) = runO (l, F) N by rw [HRQ.out, HQ.out, h7]; rfl)
  rw [h7]
  clear h7
  go_wp2_with fail
  refine (qCopy_any (Ty.below_w HR0.out HB1.out) HS.out).mono ?_
  rintro e w2 ⟨y0, y1, fp, rfl, hm, hf, _, hb2⟩
  clear p0 p1 pl z0 z1 e0 e1 zl
  have HB2 := Lib.hid (HB1.out.trans (hb2.mono HB1.out.size))
  have X2 := Lib.hid (X1.out.below hb2 X1.out.lt)
  have Z2 := Lib.hid (Z1.out.below hb2 Z1.out.lt)
  clear hb2
  have p0 := X2.out.cell 0
  have p1 := X2.out.cell 1
  have pl := X2.out.lt
  have z0 := Z2.out.cell 0
  have z1 := Z2.out.cell 1
  have e0 := Z2.out.frz 0
  have e1 := Z2.out.frz 1
  have zl := Z2.out.lt
  simp at p0 p1 z0 z1
  obtain ⟨A9, n9, c9, hcs⟩ := tyQueue_shM hm
  simp only [List.cons.injEq, and_true] at hcs
  obtain ⟨rfl, rfl⟩ := hcs
  have HM := Lib.hid hm
  have HF := Lib.hid hf
  clear hm hf
  clear p0 p1 pl z0 z1 e0 e1 zl
  have O3 := Lib.hid (Box.new w2 #[.slice A9 n9 c9, .int .i64 F] 25)
  have X3 := Lib.hid (X2.out.alloc (.cells #[.slice A9 n9 c9, .int .i64 F] 25))
  have Z3 := Lib.hid (Z2.out.alloc (.cells #[.slice A9 n9 c9, .int .i64 F] 25))
  have HB3 := Lib.hid (HB2.out.alloc HB2.out.size (.cells #[.slice A9 n9 c9, .int .i64 F] 25))
  have HM3 := Lib.hid (Ty.mb HM.out ((Below.refl _ _).alloc (Nat.le_refl _) (.cells #[.slice A9 n9 c9, .int .i64 F] 25)) fun b hb => (HF.out b hb).2)
  have hs3 : (w2.alloc (.cells #[.slice A9 n9 c9, .int .i64 F] 25)).heap.size = w2.heap.size + 1 := World.size_alloc _ _
  have hz2 := Z2.out.lt
  have hfo : ∀ b ∈ fp, w.heap.size + 1 < b ∧ b < w2.heap.size := fun b hb => by have h1 := (HF.out b hb).1; have h2 := Z1.out.lt; have h3 := (HF.out b hb).2; omega
  have HFO := Lib.hid hfo
  clear hfo
  go_wp2_with fail
  go_loopw [8, 9] (fun v i wr => ∃ (k : Nat) (Dk : Qu) (ids : List Int), k ≤ N ∧ i = .int .i64 k ∧ runO (l, F) k = some (Dk, ids) ∧ tyQueue.M wr fp [.slice A9 n9 c9, .int .i64 Dk.2] Dk ∧ Box wr w2.heap.size #[.slice A9 n9 c9, .int .i64 Dk.2] 25 ∧
      wr.ownsRow (w2.heap.size + 1) 3 1 v ids.length (ids.map (Value.int .i64)) ∧ Box wr w.heap.size #[.slice A n c, .int .i64 F] 25 ∧ Box wr (w.heap.size + 1) #[.slice none 0 0, .int .i64 0] 25 ∧ w2.heap.size + 1 ≤ wr.heap.size ∧ Below w.heap.size w wr) (fun _ i _ => N - (intOf i).toNat)
  case atStart =>
    have hN := Box.new (w2.alloc (.cells #[.slice A9 n9 c9, .int .i64 F] 25)) #[] 3
    rw [hs3] at hN
    exact ⟨0, (l, F), [], Nat.zero_le _, rfl, rfl, Ty.mb HM3.out ((Below.refl _ _).alloc (Nat.le_refl _) _) (fun b hb => by rw [hs3]; have := (HFO.out b hb).2; omega), O3.out.alloc _, by have h := own_empty' (size := 1) hN (Nat.le_refl _); first | exact h | (rw [← hs3] at h ⊢; exact h), X3.out.alloc _, Z3.out.alloc _, by rw [World.size_alloc, hs3]; omega, HB3.out.alloc HB3.out.size _⟩
  case round =>
    obtain ⟨k, ⟨lk, Fk⟩, ids, hk, rfl, hrun, hm, ho, hv, hx, hz, hsw, hb⟩ := hrel
    dsimp only at hm ho
    have HRK := Lib.hid hrun
    have HMK := Lib.hid hm
    have OK := Lib.hid ho
    have VK := Lib.hid hv
    have XK := Lib.hid hx
    have ZK := Lib.hid hz
    have HSW := Lib.hid hsw
    have HBK := Lib.hid hb
    have hok := run_ok HQ.out hrun
    have HLI := Lib.hid hok.2.1
    clear hrun hm ho hv hx hz hb
    have o0 := OK.out.cell 0
    have o1 := OK.out.cell 1
    have ol := OK.out.lt
    simp at o0 o1
    by_cases hlt : k < N
    · have hk1 : (k : Int) < (N : Int) := by omega
      go_wp2_with fail
      refine (qTick_any HMK.out (fun b hb => by have := (HFO.out b hb).2; omega) (rng_of hok.1)).mono ?_
      rintro e w4 ⟨rfl, hm, ht⟩
      clear o0 o1 ol
      have HM4 := Lib.hid hm
      have HB4 := Lib.hid (HBK.out.trans (ht.below HBK.out.size fun b hb => by have := (HFO.out b hb).1; omega))
      have X4 := Lib.hid (ht.box XK.out fun hb => by have := (HFO.out _ hb).1; omega)
      have Z4 := Lib.hid (ht.box ZK.out fun hb => by have := (HFO.out _ hb).1; omega)
      have O4 := Lib.hid (ht.box OK.out fun hb => by have := (HFO.out _ hb).2; omega)
      have V4 := Lib.hid (own_foot VK.out ht fun b hb => by have := (HFO.out b hb).2; omega)
      have HS4 := Lib.hid (Nat.le_trans hsw ht.size)
      have hid := fun r => tk_id (D := (lk, Fk)) (r := r) hok.1
      have hT : tkR (lk, Fk) = match tickD (lk, Fk) with | none => ((lk, Fk), -1) | some r => r := rfl
      have hR1 : runO (l, F) (k + 1) = match tickD (lk, Fk) with | none => none | some s => some (s.1, ids ++ [s.2]) := by
        show (match runO (l, F) k with | none => none | some r => match tickD r.1 with | none => none | some s => some (s.1, r.2 ++ [s.2])) = _
        rw [HRK.out]
      clear hm ht hok
      cases htk : tickD (lk, Fk) with
      | none =>
        rw [htk] at hT hR1
        dsimp only at hT hR1
        have HNO := Lib.hid (show runQ (l, F) (N : Int) = none by rw [HRN.out]; exact run_none hR1 (by omega))
        rw [hT]
        clear hT hR1 htk hid
        dsimp only
        have z0 := Z4.out.cell 0
        have z1 := Z4.out.cell 1
        have e0 := Z4.out.frz 0
        have e1 := Z4.out.frz 1
        have zl := Z4.out.lt
        simp at z0 z1
        have zl3 : w.heap.size < w4.heap.size := by omega
        have HV := Lib.hid (show (runQ (l, F) (N : Int)).isSome = false ∧ runD (l, F) (N : Int) = qZ ∧ runI (l, F) (N : Int) = [] from ⟨by rw [HNO.out]; rfl, by unfold runD; rw [HNO.out], by unfold runI; rw [HNO.out]⟩)
        have ZB := Lib.hid ((((Z4.out.set 0 (.slice none 0 0)).set 1 (.int .i64 0)).alloc (.cells #[.slice A9 n9 c9, .int .i64 Fk] 25)).alloc (.cells #[] 3))
        simp at ZB
        have HBB := Lib.hid (show Below w.heap.size w ((((w4.setCell ⟨w.heap.size + 1, 0, none⟩ (.slice none 0 0)).setCell ⟨w.heap.size + 1, 1, none⟩ (.int .i64 0)).alloc (.cells #[.slice A9 n9 c9, .int .i64 Fk] 25)).alloc (.cells #[] 3)) from (((HB4.out.setCell (p := ⟨w.heap.size + 1, 0, none⟩) (Nat.le_add_right _ _) (.slice none 0 0)).setCell (p := ⟨w.heap.size + 1, 1, none⟩) (Nat.le_add_right _ _) (.int .i64 0)).alloc (by simp only [World.size_setCell]; exact HB4.out.size) (.cells #[.slice A9 n9 c9, .int .i64 Fk] 25)).alloc (by simp only [World.size_alloc, World.size_setCell]; have := HB4.out.size; omega) _)
        go_wp2_with fail
        generalize ((((w4.setCell ⟨w.heap.size + 1, 0, none⟩ (.slice none 0 0)).setCell ⟨w.heap.size + 1, 1, none⟩ (.int .i64 0)).alloc (.cells #[.slice A9 n9 c9, .int .i64 Fk] 25)).alloc (.cells #[] 3)) = w9 at ZB HBB ⊢
        generalize w4.heap.size + 1 = N9
        have zz0 := ZB.out.cell 0
        have zz1 := ZB.out.cell 1
        simp at zz0 zz1
        exact bodyPost_ret (v := .tuple #[.agg #[.slice none 0 0, .int .i64 0], .slice (some ⟨N9, 0, none⟩) 0 0, .bool false]) (by simp [results, Try.results47, go_sem, zz0, zz1]) rfl (show RunS _ _ _ _ _ from ⟨_, _, _, _, _, by rw [HV.out.1], by rw [HV.out.2.1]; exact qzR, fun h => absurd h (Nat.lt_irrefl 0), by rw [HV.out.2.2]; rfl, HBB.out⟩)
      | some rr =>
        rw [htk] at hT hR1
        have hid2 := hid rr htk
        obtain ⟨⟨l2, F2⟩, i2⟩ := rr
        dsimp only at hT hR1 hid2
        rw [hT] at HM4 ⊢
        have HR2 := Lib.hid hR1
        dsimp only at HM4 ⊢
        have hid3 : ¬ (i2 < 0) := by omega
        clear hT hR1 htk hid hid2
        have o0 := O4.out.cell 0
        have o1 := O4.out.cell 1
        have f0 := O4.out.frz 0
        have f1 := O4.out.frz 1
        have ol := O4.out.lt
        simp at o0 o1
        have hsw4 := HS4.out
        have O5 := Lib.hid (((O4.out.set 0 (.slice A9 n9 c9)).set 1 (.int .i64 F2)).alloc (.cells #[.slice A9 n9 c9, .int .i64 F2] 25))
        simp at O5
        have X5 := Lib.hid (((X4.out.other (a := ⟨w2.heap.size, 0, none⟩) (by show w.heap.size ≠ w2.heap.size; omega) (.slice A9 n9 c9)).other (a := ⟨w2.heap.size, 1, none⟩) (by show w.heap.size ≠ w2.heap.size; omega) (.int .i64 F2)).alloc (.cells #[.slice A9 n9 c9, .int .i64 F2] 25))
        have Z5 := Lib.hid (((Z4.out.other (a := ⟨w2.heap.size, 0, none⟩) (by show w.heap.size + 1 ≠ w2.heap.size; omega) (.slice A9 n9 c9)).other (a := ⟨w2.heap.size, 1, none⟩) (by show w.heap.size + 1 ≠ w2.heap.size; omega) (.int .i64 F2)).alloc (.cells #[.slice A9 n9 c9, .int .i64 F2] 25))
        have HB5 := Lib.hid (((HB4.out.setCell (p := ⟨w2.heap.size, 0, none⟩) (by show w.heap.size ≤ w2.heap.size; omega) (.slice A9 n9 c9)).setCell (p := ⟨w2.heap.size, 1, none⟩) (by show w.heap.size ≤ w2.heap.size; omega) (.int .i64 F2)).alloc (by simp only [World.size_setCell]; exact HB4.out.size) (.cells #[.slice A9 n9 c9, .int .i64 F2] 25))
        have HM5 := Lib.hid (show tyQueue.M (((w4.setCell ⟨w2.heap.size, 0, none⟩ (.slice A9 n9 c9)).setCell ⟨w2.heap.size, 1, none⟩ (.int .i64 F2)).alloc (.cells #[.slice A9 n9 c9, .int .i64 F2] 25)) fp _ _ from tyQueue.mframe HM4.out fun b hb => (Below.heap_alloc ((w4.setCell ⟨w2.heap.size, 0, none⟩ (.slice A9 n9 c9)).setCell ⟨w2.heap.size, 1, none⟩ (.int .i64 F2)) (.cells #[.slice A9 n9 c9, .int .i64 F2] 25) b (by simp only [World.size_setCell]; have := (HFO.out b hb).2; omega)).trans ((heap_setCell_other _ _ _ _ (by have := (HFO.out b hb).2; show b ≠ w2.heap.size; omega)).trans (heap_setCell_other _ _ _ _ (by have := (HFO.out b hb).2; show b ≠ w2.heap.size; omega))))
        have V5 := Lib.hid (own_keep (own_off (own_off V4.out (a := ⟨w2.heap.size, 0, none⟩) (Nat.lt_succ_self _) (.slice A9 n9 c9)) (a := ⟨w2.heap.size, 1, none⟩) (Nat.lt_succ_self _) (.int .i64 F2)) ((Below.refl _ _).alloc (Nat.le_refl _) (.cells #[.slice A9 n9 c9, .int .i64 F2] 25)))
        have hs5 : (((w4.setCell ⟨w2.heap.size, 0, none⟩ (.slice A9 n9 c9)).setCell ⟨w2.heap.size, 1, none⟩ (.int .i64 F2)).alloc (.cells #[.slice A9 n9 c9, .int .i64 F2] 25)).heap.size = w4.heap.size + 1 := by rw [World.size_alloc]; simp only [World.size_setCell]
        clear X4 Z4 O4 V4 HM4
        have hlen : ids.length ≤ 1000 := by have := HLI.out; omega
        go_wp2_with (at_builtin
                     generalize ((w4.setCell ⟨w2.heap.size, 0, none⟩ (.slice A9 n9 c9)).setCell ⟨w2.heap.size, 1, none⟩ (.int .i64 F2)).alloc (.cells #[.slice A9 n9 c9, .int .i64 F2] 25) = w5 at O5 X5 Z5 HB5 HM5 V5 hs5 ⊢
                     refine wpList_append_own _ rfl _ _ 28 rfl (w2.heap.size + 1) 3 i0 (.int .i64 0) 1 8 Try.underlying28 HI.out HZ0.out HZ1.out HZ2.out rfl (by decide) _ _ _ rfl (own_keep V5.out ((Below.refl _ _).alloc (Nat.le_refl _) _)) ⟨w4.heap.size + 1, 0, none⟩ 1 1 [.int .i64 i2] rfl rfl ?c1 ?c2 ?c3 ?c4 ?c5 ?_
                     case c1 => rw [← hs5]; exact World.news_of_block (Box.new w5 _ _)
                     case c2 => intro u hu; rw [List.mem_singleton.1 hu]; rfl
                     case c3 => simp only [maxLen]; omega
                     case c4 => omega
                     case c5 => rw [World.size_alloc]; omega
                     intro v6 w6 hown hg _
                     have HB6 := Lib.hid (HB5.out.trans (((Below.refl _ _).alloc HB5.out.size (.cells #[.int .i64 i2] 3)).grown hg (by rw [World.size_alloc]; have := HB5.out.size; omega) (fun q e => by have := (V5.out.lt q e).1; have := HB2.out.size; omega)))
                     have hgb : ∀ b, b < w2.heap.size + 1 → w6.heap[b]? = w5.heap[b]? := fun b hb => (hg.block b (by rw [World.size_alloc]; omega) (fun e => by have := (V5.out.lt b e.symm).1; omega)).trans (Below.heap_alloc _ _ b (by omega))
                     have O6 := Lib.hid ((hgb _ (Nat.lt_succ_self _)).trans O5.out)
                     have X6 := Lib.hid ((hgb _ (by omega)).trans X5.out)
                     have Z6 := Lib.hid ((hgb _ (by omega)).trans Z5.out)
                     have HM6 := Lib.hid (show tyQueue.M w6 fp _ _ from tyQueue.mframe HM5.out fun b hb => hgb b (by have := (HFO.out b hb).2; omega))
                     have V6 := Lib.hid hown
                     have HS6 := Lib.hid (show w2.heap.size + 1 ≤ w6.heap.size by have := hg.size; rw [World.size_alloc] at this; omega)
                     clear hown hg hgb o0 o1 f0 f1 ol)
        go_roundw
        case rel => exact ⟨k + 1, (l2, F2), ids ++ [i2], by omega, by go_num, HR2.out, HM6.out, O6.out, by rw [List.length_append, List.map_append]; exact V6.out, X6.out, Z6.out, HS6.out, HB6.out⟩
        case measure => simp [intOf]; omega
    · obtain rfl : k = N := by omega
      clear hok
      have HV := Lib.hid (show (runQ (l, F) (k : Int)).isSome = true ∧ runD (l, F) (k : Int) = (lk, Fk) ∧ runI (l, F) (k : Int) = ids from ⟨by rw [HRN.out, HRK.out]; rfl, by unfold runD; rw [HRN.out, HRK.out], by unfold runI; rw [HRN.out, HRK.out]⟩)
      obtain ⟨A7, c7, fi, hv7, hr7, hf7⟩ := own_rowI VK.out
      have HRI := Lib.hid hr7
      have HFI := Lib.hid hf7
      subst hv7
      clear hr7 hf7
      have z0 := ZK.out.cell 0
      have z1 := ZK.out.cell 1
      have e0 := ZK.out.frz 0
      have e1 := ZK.out.frz 1
      have zl := ZK.out.lt
      simp at z0 z1
      go_wp2_with fail
      exact bodyPost_ret (v := .tuple #[.agg #[.slice A9 n9 c9, .int .i64 Fk], .slice A7 ids.length c7, .bool true]) (by simp [results, Try.results47, go_sem, z0, z1]) rfl (show RunS _ _ _ _ _ from ⟨_, _, _, _, _, by rw [HV.out.1], by rw [HV.out.2.1]; exact laidR HMK.out (fun b hb => ⟨by have := (HFO.out b hb).2; omega, by have := (HFO.out b hb).1; omega⟩) _ _,
        by rw [HV.out.2.2]; exact (HRI.out.frame fun b hb => (heap_setCell_other _ _ _ _ (by have := (HFI.out b hb).1; show b ≠ w.heap.size + 1; omega)).trans (heap_setCell_other _ _ _ _ (by have := (HFI.out b hb).1; show b ≠ w.heap.size + 1; omega))).row fun b hb => by simp only [World.size_setCell]; exact (HFI.out b hb).2, by rw [HV.out.2.2], (by repeat (first | exact HBK.out | exact Below.refl _ _ | refine Below.setCell ?_ (by first | exact Nat.le_refl _ | exact Nat.le_add_right _ _ | (simp only [World.size_alloc]; omega) | (simp only [World.size_setCell]; omega) | (simp only [World.size_alloc, World.size_setCell]; omega) | omega) _ | refine Below.alloc ?_ (by first | exact Nat.le_refl _ | exact Nat.le_add_right _ _ | (simp only [World.size_alloc]; omega) | (simp only [World.size_setCell]; omega) | (simp only [World.size_alloc, World.size_setCell]; omega) | omega) _ | refine Below.drew ?_))⟩)
end
end Go.Proofs.Ytagggajlpmdpdaa
