/-
  The model's CredBecome, CredRun, l5Signal, CredSignal.
-/
import Derived.Test.YtacndjbhlhbknaaUS2
namespace Go.Proofs.Ytacndjbhlhbknaa
open Go.RowKit

theorem RowF.of_m {α : Type} {E : El α} {w w' : World} {A : Option Addr} {n : Nat} {l : List α} {fp : List Nat} (h : RowM E w fp A n l) (hfp : ∀ b ∈ fp, b < w.heap.size) (hb : Below w.heap.size w w') : RowF E w' w'.heap.size A n l :=
  (((h.row (hi := w.heap.size) hfp).below hb)).up hb.size
theorem RowF.zero {α : Type} {E : El α} {w : World} {hi : Nat} {A : Option Addr} {l : List α} : RowF E w hi A 0 l := fun h => absurd h (Nat.lt_irrefl 0)
theorem RowM.setOther {α : Type} {E : El α} {w : World} {A : Option Addr} {n : Nat} {l : List α} {fp : List Nat} (h : RowM E w fp A n l) (a : Addr) (v : Value) (hne : ∀ b ∈ fp, b ≠ a.block) : RowM E (w.setCell a v) fp A n l :=
  h.frame fun b hb => heap_setCell_other _ _ _ _ (hne b hb)
theorem bec_no {D : Cr} {u : Int} (h : becB D u = false) : becD D u = (0, 0, []) := by unfold becD; rw [h]; rfl
theorem bec_yes {D : Cr} {u : Int} (h : becB D u = true) : becD D u = (u, if D.1 = 0 then u else D.2.1, D.2.2) := by unfold becD; rw [if_pos h]
theorem run_no {D : Cr} {u : Int} (h : runB D u = false) : runD D u = (0, 0, []) := by unfold runD; rw [h]; rfl
theorem run_yes {D : Cr} {u : Int} (h : runB D u = true) : runD D u = (u, D.2.1, D.2.2) := by unfold runD; rw [if_pos h]
theorem nilCred {w : World} {hi : Nat} : tyCred.R w hi [.int .i64 0, .int .i64 0, .slice none 0 0] (0, 0, []) := tyCred_Rmk (D := (0, 0, [])) ⟨rfl, by simp [maxLen], RowF.zero⟩

set_option maxHeartbeats 2000000 in
theorem credBec_any : CBecS 33 := by
  intro w hi x0 x1 x2 D x h hs
  have HSM := Lib.hid hs
  have HR0 := Lib.hid h
  obtain ⟨A, n, c, hcs, _⟩ := tyCred_R h
  simp only [List.cons.injEq, and_true] at hcs
  obtain ⟨rfl, rfl, rfl⟩ := hcs
  clear h hs
  obtain ⟨u, v, l⟩ := D
  dsimp only at HR0 ⊢
  have B0 := Lib.hid ((Box.new w #[.int .i64 u, .int .i64 v, .slice A n c] 25).alloc (.cells #[.int .i64 0, .int .i64 0, .slice none 0 0] 25))
  have C0 := Lib.hid (Box.new (w.alloc (.cells #[.int .i64 u, .int .i64 v, .slice A n c] 25)) #[.int .i64 0, .int .i64 0, .slice none 0 0] 25)
  simp only [World.size_alloc] at C0
  have HB0 := Lib.hid (show Below w.heap.size w ((w.alloc (.cells #[.int .i64 u, .int .i64 v, .slice A n c] 25)).alloc (.cells #[.int .i64 0, .int .i64 0, .slice none 0 0] 25)) from ((Below.refl _ _).alloc (Nat.le_refl _) _).alloc (by simp only [World.size_alloc]; omega) _)
  go_enter Try.func33, Try.ntmps33
  go_wp2_with fail
  refine (l5Copy_any (Ty.below_w HR0.out HB0.out) HSM.out).mono ?_
  rintro e w1 ⟨y0, y1, y2, fp, rfl, hm, hf, hb1⟩
  obtain ⟨A2, n2, c2, f2, hcs, rfl, hl2, hn2, hrow⟩ := tyCred_M hm
  simp only [List.cons.injEq, and_true] at hcs
  obtain ⟨rfl, rfl, rfl⟩ := hcs
  have HB1 := Lib.hid (HB0.out.trans (hb1.mono HB0.out.size))
  have B1 := Lib.hid (B0.out.below hb1 B0.out.lt)
  have C1 := Lib.hid (C0.out.below hb1 C0.out.lt)
  have HROW := Lib.hid hrow
  have HL2 := Lib.hid hl2
  have HF := Lib.hid (fun b hb => (show w.heap.size + 1 < b ∧ b < w1.heap.size from by have h := hf b hb; simp only [World.size_alloc] at h; omega))
  dsimp only at HROW HL2
  clear hb1 hm hf hrow hl2
  have B1a := Lib.hid (B1.out.alloc (.cells #[.int .i64 x, .int .i64 v, .slice A2 n2 c2] 25))
  have C1a := Lib.hid (C1.out.alloc (.cells #[.int .i64 x, .int .i64 v, .slice A2 n2 c2] 25))
  have D1 := Lib.hid (Box.new w1 #[.int .i64 x, .int .i64 v, .slice A2 n2 c2] 25)
  have HBa := Lib.hid (HB1.out.alloc HB1.out.size (.cells #[.int .i64 x, .int .i64 v, .slice A2 n2 c2] 25))
  have HWa := Lib.hid (show Below w1.heap.size w1 (w1.alloc (.cells #[.int .i64 x, .int .i64 v, .slice A2 n2 c2] 25)) from (Below.refl _ _).alloc (Nat.le_refl _) _)
  have p0 := B1.out.cell 0
  have p1 := B1.out.cell 1
  have p2 := B1.out.cell 2
  have pl := B1.out.lt
  simp at p0 p1 p2
  go_wp2_with fail
  refine (credOk_any (Ty.below_w HR0.out HBa.out)).mono ?_
  rintro e w2 ⟨rfl, hb2⟩
  have HB2 := Lib.hid (HBa.out.trans (hb2.mono HBa.out.size))
  have HW2 := Lib.hid (HWa.out.trans (hb2.mono HWa.out.size))
  have B2 := Lib.hid (B1a.out.below hb2 B1a.out.lt)
  have C2 := Lib.hid (C1a.out.below hb2 C1a.out.lt)
  have D2 := Lib.hid (D1.out.below hb2 (by simp))
  have q0 := C2.out.frz 0
  have q1 := C2.out.frz 1
  have q2 := C2.out.frz 2
  have r0 := C2.out.cell 0
  have r1 := C2.out.cell 1
  have r2 := C2.out.cell 2
  have s0 := D2.out.cell 0
  have s1 := D2.out.cell 1
  have s2 := D2.out.cell 2
  have t1 := D2.out.frz 1
  have t0 := B2.out.cell 0
  have t2 := B2.out.cell 1
  have u0 := B2.out.lt
  have u1 := C2.out.lt
  have u2 := D2.out.lt
  simp at r0 r1 r2 s0 s1 s2 t0 t2
  clear p0 p1 p2 pl hb2
  have HROW2 := Lib.hid (HROW.out.frame fun b hb => HW2.out.block b (HF.out b hb).2)
  have HCB : becB (u, v, l) x = (credB (u, v, l) && (uB x && (decide (u = 0) || (decide (x = v) || decide (x = u))))) := rfl
  by_cases hc : credB (u, v, l) = true
  · rw [hc] at HCB ⊢
    have HCC := Lib.hid HCB
    clear HCB hc
    go_wp2_with fail
    refine (l5User_any x).mono ?_
    rintro e w3 ⟨rfl, rfl⟩
    by_cases hx : uB x = true
    · rw [hx]
      have HX := Lib.hid hx
      clear hx
      by_cases h0 : u = 0
      · subst h0
        have hv : becB (0, v, l) x = true := by rw [HCC.out, HX.out]; simp
        have hne1 : ¬ (w1.heap.size = w.heap.size + 1) := by have := C1.out.lt; omega
        have hne2 : ¬ (w.heap.size + 1 = w1.heap.size) := by omega
        go_wp2_with fail
        refine bodyPost_ret (v := .tuple #[.agg #[.int .i64 x, .int .i64 x, .slice A2 n2 c2], .bool true]) (by simp [results, Try.results33, go_sem, r0, r1, r2]) rfl ⟨.int .i64 x, .int .i64 x, .slice A2 n2 c2, by rw [hv], by rw [bec_yes hv]; exact tyCred_Rmk (D := (x, x, l)) ⟨HL2.out, by simp only [maxLen]; omega, ((((HROW2.out.setOther ⟨w1.heap.size, 1, none⟩ _ (fun b hb => by have h := HF.out b hb; show b ≠ w1.heap.size; omega)).setOther ⟨w.heap.size + 1, 0, none⟩ _ (fun b hb => by have h := HF.out b hb; show b ≠ w.heap.size + 1; omega)).setOther ⟨w.heap.size + 1, 1, none⟩ _ (fun b hb => by have h := HF.out b hb; show b ≠ w.heap.size + 1; omega)).setOther ⟨w.heap.size + 1, 2, none⟩ _ (fun b hb => by have h := HF.out b hb; show b ≠ w.heap.size + 1; omega)).row fun b hb => by have h := HF.out b hb; have h2 := HW2.out.size; simp only [World.size_setCell]; omega⟩, ((((HB2.out.setCell (p := ⟨w1.heap.size, 1, none⟩) (by show w.heap.size ≤ w1.heap.size; have h := HB1.out.size; omega) _).setCell (p := ⟨w.heap.size + 1, 0, none⟩) (by show w.heap.size ≤ w.heap.size + 1; have h := HB1.out.size; omega) _).setCell (p := ⟨w.heap.size + 1, 1, none⟩) (by show w.heap.size ≤ w.heap.size + 1; have h := HB1.out.size; omega) _).setCell (p := ⟨w.heap.size + 1, 2, none⟩) (by show w.heap.size ≤ w.heap.size + 1; have h := HB1.out.size; omega) _)⟩
      · by_cases h1 : x = v
        · subst h1
          have hv : becB (u, x, l) x = true := by rw [HCC.out, HX.out]; simp
          have hif : (if u = 0 then x else x) = x := by split <;> rfl
          go_wp2_with fail
          refine bodyPost_ret (v := .tuple #[.agg #[.int .i64 x, .int .i64 x, .slice A2 n2 c2], .bool true]) (by simp [results, Try.results33, go_sem, r0, r1, r2]) rfl ⟨.int .i64 x, .int .i64 x, .slice A2 n2 c2, by rw [hv], by rw [bec_yes hv]; dsimp only; rw [hif]; exact tyCred_Rmk (D := (x, x, l)) ⟨HL2.out, by simp only [maxLen]; omega, (((HROW2.out.setOther ⟨w.heap.size + 1, 0, none⟩ _ (fun b hb => by have h := HF.out b hb; show b ≠ w.heap.size + 1; omega)).setOther ⟨w.heap.size + 1, 1, none⟩ _ (fun b hb => by have h := HF.out b hb; show b ≠ w.heap.size + 1; omega)).setOther ⟨w.heap.size + 1, 2, none⟩ _ (fun b hb => by have h := HF.out b hb; show b ≠ w.heap.size + 1; omega)).row fun b hb => by have h := HF.out b hb; have h2 := HW2.out.size; simp only [World.size_setCell]; omega⟩, (((HB2.out.setCell (p := ⟨w.heap.size + 1, 0, none⟩) (by show w.heap.size ≤ w.heap.size + 1; have h := HB1.out.size; omega) _).setCell (p := ⟨w.heap.size + 1, 1, none⟩) (by show w.heap.size ≤ w.heap.size + 1; have h := HB1.out.size; omega) _).setCell (p := ⟨w.heap.size + 1, 2, none⟩) (by show w.heap.size ≤ w.heap.size + 1; have h := HB1.out.size; omega) _)⟩
        · by_cases h2 : x = u
          · subst h2
            have hv : becB (x, v, l) x = true := by rw [HCC.out, HX.out]; simp
            go_wp2_with fail
            refine bodyPost_ret (v := .tuple #[.agg #[.int .i64 x, .int .i64 v, .slice A2 n2 c2], .bool true]) (by simp [results, Try.results33, go_sem, r0, r1, r2]) rfl ⟨.int .i64 x, .int .i64 v, .slice A2 n2 c2, by rw [hv], by rw [bec_yes hv]; dsimp only; rw [if_neg h0]; exact tyCred_Rmk (D := (x, v, l)) ⟨HL2.out, by simp only [maxLen]; omega, (((HROW2.out.setOther ⟨w.heap.size + 1, 0, none⟩ _ (fun b hb => by have h := HF.out b hb; show b ≠ w.heap.size + 1; omega)).setOther ⟨w.heap.size + 1, 1, none⟩ _ (fun b hb => by have h := HF.out b hb; show b ≠ w.heap.size + 1; omega)).setOther ⟨w.heap.size + 1, 2, none⟩ _ (fun b hb => by have h := HF.out b hb; show b ≠ w.heap.size + 1; omega)).row fun b hb => by have h := HF.out b hb; have h2 := HW2.out.size; simp only [World.size_setCell]; omega⟩, (((HB2.out.setCell (p := ⟨w.heap.size + 1, 0, none⟩) (by show w.heap.size ≤ w.heap.size + 1; have h := HB1.out.size; omega) _).setCell (p := ⟨w.heap.size + 1, 1, none⟩) (by show w.heap.size ≤ w.heap.size + 1; have h := HB1.out.size; omega) _).setCell (p := ⟨w.heap.size + 1, 2, none⟩) (by show w.heap.size ≤ w.heap.size + 1; have h := HB1.out.size; omega) _)⟩
          · have hv : becB (u, v, l) x = false := by rw [HCC.out, HX.out]; simp [h0, h1, h2]
            have hb1 : (x != v) = true := bne_iff_ne.2 h1
            have hb2 : (x != u) = true := bne_iff_ne.2 h2
            go_wp2_with fail
            refine bodyPost_ret (v := .tuple #[.agg #[.int .i64 0, .int .i64 0, .slice none 0 0], .bool false]) (by simp [results, Try.results33, go_sem, r0, r1, r2]) rfl ⟨.int .i64 0, .int .i64 0, .slice none 0 0, by rw [hv], by rw [bec_no hv]; exact nilCred, (((HB2.out.setCell (p := ⟨w.heap.size + 1, 0, none⟩) (by show w.heap.size ≤ w.heap.size + 1; have h := HB1.out.size; omega) _).setCell (p := ⟨w.heap.size + 1, 1, none⟩) (by show w.heap.size ≤ w.heap.size + 1; have h := HB1.out.size; omega) _).setCell (p := ⟨w.heap.size + 1, 2, none⟩) (by show w.heap.size ≤ w.heap.size + 1; have h := HB1.out.size; omega) _)⟩
    · have hx' : uB x = false := by simpa using hx
      have hv : becB (u, v, l) x = false := by rw [HCC.out, hx']; rfl
      rw [hx']
      clear hx
      go_wp2_with fail
      refine bodyPost_ret (v := .tuple #[.agg #[.int .i64 0, .int .i64 0, .slice none 0 0], .bool false]) (by simp [results, Try.results33, go_sem, r0, r1, r2]) rfl ⟨.int .i64 0, .int .i64 0, .slice none 0 0, by rw [hv], by rw [bec_no hv]; exact nilCred, (((HB2.out.setCell (p := ⟨w.heap.size + 1, 0, none⟩) (by show w.heap.size ≤ w.heap.size + 1; have h := HB1.out.size; omega) _).setCell (p := ⟨w.heap.size + 1, 1, none⟩) (by show w.heap.size ≤ w.heap.size + 1; have h := HB1.out.size; omega) _).setCell (p := ⟨w.heap.size + 1, 2, none⟩) (by show w.heap.size ≤ w.heap.size + 1; have h := HB1.out.size; omega) _)⟩
  · have hc' : credB (u, v, l) = false := by simpa using hc
    have hv : becB (u, v, l) x = false := by rw [HCB, hc']; rfl
    rw [hc']
    clear hc HCB
    go_wp2_with fail
    refine bodyPost_ret (v := .tuple #[.agg #[.int .i64 0, .int .i64 0, .slice none 0 0], .bool false]) (by simp [results, Try.results33, go_sem, r0, r1, r2]) rfl ⟨.int .i64 0, .int .i64 0, .slice none 0 0, by rw [hv], by rw [bec_no hv]; exact nilCred, (((HB2.out.setCell (p := ⟨w.heap.size + 1, 0, none⟩) (by show w.heap.size ≤ w.heap.size + 1; have h := HB1.out.size; omega) _).setCell (p := ⟨w.heap.size + 1, 1, none⟩) (by show w.heap.size ≤ w.heap.size + 1; have h := HB1.out.size; omega) _).setCell (p := ⟨w.heap.size + 1, 2, none⟩) (by show w.heap.size ≤ w.heap.size + 1; have h := HB1.out.size; omega) _)⟩
end Go.Proofs.Ytacndjbhlhbknaa
