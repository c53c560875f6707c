/-
  The program's copied of a meaning.
-/
import Derived.Test.YtnodmblieocamaaVCopI
import Derived.Deep.RegionHeld3
namespace Go.Proofs.Ytnodmblieocamaa
open Go.RowKit

theorem Grow.zero {α : Type} {T : Ty α} {K : Nat} {w1 w2 : World} {g n : Nat} {l : List α} {fs : Nat → List Nat} (h : Grow T K w1 g n l 0 fs) (hb : w2.heap[g]? = w1.heap[g]?) : Grow T K w2 g n l 0 fs where
  lt := lt_of_block hb h.lt
  frz := fun i => (frozen_of_block hb i).trans (h.frz i)
  low := fun _ hj => absurd hj (Nat.not_lt_zero _)
  dis := fun _ _ hi => absurd hi (Nat.not_lt_zero _)
  elt := fun _ hj => absurd hj (Nat.not_lt_zero _)
  rest := fun q hq => by
    obtain ⟨v, hv⟩ := h.rest q hq
    exact ⟨v, (cell_of_block hb q).trans hv⟩
set_option maxHeartbeats 8000000 in
set_option maxRecDepth 100000 in
theorem copiedV_any {w : World} {hi : Nat} {D : DV} {x0 : Value} (h : tyViews.R w hi [x0] D) (hs : smallViews D) :
    Calls Try.prog 21 #[.agg #[x0]] w fun e w' => ∃ A c fp, e = .returned (.agg #[.slice A D.length c]) ∧ tyViews.M w' fp [.slice A D.length c] D ∧ (∀ x ∈ fp, w.heap.size ≤ x ∧ x < w'.heap.size) ∧ Below w.heap.size w w' := by
  have HD := Lib.hid h
  have HSM := Lib.hid hs
  obtain ⟨A, c, rfl, hL⟩ := lenV h
  have hL2 : D.length ≤ 1048576 := by
    have h1 : totSBytesOf D ≤ 1048576 := hs
    unfold totSBytesOf at h1
    omega
  clear h hs hL
  have hn0 : (0 : Int) ≤ D.length := by omega
  have hn1 : (D.length : Int) ≤ 1048576 := by omega
  have hmk : ∀ u : World, (Instr.makeSlice 26 (.int .i64 (D.length : Int)) (.int .i64 (D.length : Int))).run Try.prog u = .ok (.slice (some ⟨u.heap.size, 0, none⟩) D.length D.length) (u.alloc (.cells (madeCells #[.bool false, .slice none 0 0, .slice none 0 0, .slice none 0 0] (D.length * 4)) 44)) := fun u => by
    obtain ⟨i0, hi, hz0, hz1, hz2⟩ := infoBytesOf
    have h := run_make (P := Try.prog) u 26 44 i0 _ Try.underlying26 hi hz0 .i64 .i64 (D.length : Int) (D.length : Int) (by omega) (Int.le_refl _) (by rw [hz2]; omega) (by omega)
    rw [hz1, Int.toNat_natCast] at h
    exact h
  go_enter Try.func21, Try.ntmps21
  go_wp2_with fail
  have G0 := Lib.hid (show Grow tyBytesOf 4 ((((w.alloc (.cells #[.slice A D.length c] 28)).alloc (.cells #[.slice none 0 0] 28)).alloc (.cells (madeCells #[.bool false, .slice none 0 0, .slice none 0 0, .slice none 0 0] (D.length * 4)) 44)).alloc (.cells #[.slice (some ⟨w.heap.size + 1 + 1, 0, none⟩) D.length D.length] 28)) (w.heap.size + 1 + 1) D.length D 0 (fun _ => []) from by
    have h := Grow.made (T := tyBytesOf) (K := 4) (l := D) ((w.alloc (.cells #[.slice A D.length c] 28)).alloc (.cells #[.slice none 0 0] 28)) D.length 44 #[.bool false, .slice none 0 0, .slice none 0 0, .slice none 0 0] (fun _ => [])
    simp only [World.size_alloc] at h
    exact h.zero (heap_alloc_old _ _ (by simp only [World.size_alloc]; omega)))
  have E0 := Lib.hid (show Box ((((w.alloc (.cells #[.slice A D.length c] 28)).alloc (.cells #[.slice none 0 0] 28)).alloc (.cells (madeCells #[.bool false, .slice none 0 0, .slice none 0 0, .slice none 0 0] (D.length * 4)) 44)).alloc (.cells #[.slice (some ⟨w.heap.size + 1 + 1, 0, none⟩) D.length D.length] 28)) (w.heap.size + 1) #[.slice none 0 0] 28 from by
    have h := Box.new (w.alloc (.cells #[.slice A D.length c] 28)) #[.slice none 0 0] 28
    rw [World.size_alloc] at h
    exact (h.alloc _).alloc _)
  have O0 := Lib.hid (show Box ((((w.alloc (.cells #[.slice A D.length c] 28)).alloc (.cells #[.slice none 0 0] 28)).alloc (.cells (madeCells #[.bool false, .slice none 0 0, .slice none 0 0, .slice none 0 0] (D.length * 4)) 44)).alloc (.cells #[.slice (some ⟨w.heap.size + 1 + 1, 0, none⟩) D.length D.length] 28)) (w.heap.size + 1 + 1 + 1) #[.slice (some ⟨w.heap.size + 1 + 1, 0, none⟩) D.length D.length] 28 from by
    have h := Box.new (((w.alloc (.cells #[.slice A D.length c] 28)).alloc (.cells #[.slice none 0 0] 28)).alloc (.cells (madeCells #[.bool false, .slice none 0 0, .slice none 0 0, .slice none 0 0] (D.length * 4)) 44)) #[.slice (some ⟨w.heap.size + 1 + 1, 0, none⟩) D.length D.length] 28
    simp only [World.size_alloc] at h
    exact h)
  have W0 := Lib.hid (show Below w.heap.size w ((((w.alloc (.cells #[.slice A D.length c] 28)).alloc (.cells #[.slice none 0 0] 28)).alloc (.cells (madeCells #[.bool false, .slice none 0 0, .slice none 0 0, .slice none 0 0] (D.length * 4)) 44)).alloc (.cells #[.slice (some ⟨w.heap.size + 1 + 1, 0, none⟩) D.length D.length] 28)) from ((((Below.refl _ _).alloc (Nat.le_refl _) _).alloc (by simp only [World.size_alloc]; omega) _).alloc (by simp only [World.size_alloc]; omega) _).alloc (by simp only [World.size_alloc]; omega) _)
  go_loopw [14] (fun i wr => ∃ (k : Nat) (fs : Nat → List Nat), k ≤ D.length ∧ i = .int .i64 k ∧ Grow tyBytesOf 4 wr (w.heap.size + 1 + 1) D.length D k fs ∧ Box wr (w.heap.size + 1) #[.slice none 0 0] 28 ∧ Box wr (w.heap.size + 1 + 1 + 1) #[.slice (some ⟨w.heap.size + 1 + 1, 0, none⟩) D.length D.length] 28 ∧ Below w.heap.size w wr) (fun i _ => D.length - (intOf i).toNat)
  case atStart => exact ⟨0, fun _ => [], Nat.zero_le _, rfl, G0.out, E0.out, O0.out, W0.out⟩
  case round =>
    obtain ⟨k, fs, hk, rfl, hg, he, ho, hb⟩ := hrel
    clear G0 E0 O0 W0
    have HG := Lib.hid hg
    have EN := Lib.hid he
    have ON := Lib.hid ho
    have WN := Lib.hid hb
    clear hg he ho hb
    have o0 := ON.out.cell 0
    have ol := ON.out.lt
    simp at o0
    by_cases hlt : k < D.length
    · obtain ⟨bx, ox, cx, A1, n1, c1, A2, n2, c2, A3, n3, c3, hSX⟩ := spAt HD.out hlt
      have hxx := hSX.x
      simp only [Value.slice.injEq] at hxx
      obtain ⟨rfl, -, rfl⟩ := hxx
      have R1 := Lib.hid hSX.r1
      have R2 := Lib.hid hSX.r2
      have R3 := Lib.hid hSX.r3
      have P1 := Lib.hid hSX.p1
      have P2 := Lib.hid hSX.p2
      have P3 := Lib.hid hSX.p3
      have hbx := hSX.lt
      have q0 := (kc WN.out _ _ hbx).trans hSX.q0
      have q1 := (kc WN.out _ _ hbx).trans hSX.q1
      have q2 := (kc WN.out _ _ hbx).trans hSX.q2
      have q3 := (kc WN.out _ _ hbx).trans hSX.q3
      have hsx : bx < wr.heap.size := Nat.lt_of_lt_of_le hbx WN.out.size
      obtain ⟨t1, t2, t3⟩ := tot_at HSM.out hlt
      rw [hSX.p1] at t1
      rw [hSX.p2] at t2
      rw [hSX.p3] at t3
      have hk1 : (k : Int) < D.length := by omega
      have hk2 : (0 : Int) ≤ k := by omega
      clear hSX
      have HST := Lib.hid (fun w1 fp ys h1 h2 h3 h4 => HG.out.step (w1 := w1) (fp := fp) (ys := ys) hlt h1 h2 h3 h4)
      generalize hS : D.getD k zS = S at *
      have HSD := Lib.hid hS
      clear hS
      obtain ⟨xl, xa, xg, xt⟩ := S
      dsimp only at *
      have SV := Lib.hid (Box.new wr #[.bool xl, .slice A1 n1 c1, .slice A2 n2 c2, .slice A3 n3 c3] 44)
      have WV := Lib.hid (show Below wr.heap.size wr (wr.alloc (.cells #[.bool xl, .slice A1 n1 c1, .slice A2 n2 c2, .slice A3 n3 c3] 44)) from (Below.refl _ _).alloc (Nat.le_refl _) _)
      have ON1 := Lib.hid (ON.out.alloc (.cells #[.bool xl, .slice A1 n1 c1, .slice A2 n2 c2, .slice A3 n3 c3] 44))
      have s0 : (wr.alloc (.cells #[.bool xl, .slice A1 n1 c1, .slice A2 n2 c2, .slice A3 n3 c3] 44)).cell? ⟨wr.heap.size, 0, none⟩ = some (.bool xl) := SV.out.cell 0
      have s1 : (wr.alloc (.cells #[.bool xl, .slice A1 n1 c1, .slice A2 n2 c2, .slice A3 n3 c3] 44)).cell? ⟨wr.heap.size, 1, none⟩ = some (.slice A1 n1 c1) := SV.out.cell 1
      have s2 : (wr.alloc (.cells #[.bool xl, .slice A1 n1 c1, .slice A2 n2 c2, .slice A3 n3 c3] 44)).cell? ⟨wr.heap.size, 2, none⟩ = some (.slice A2 n2 c2) := SV.out.cell 2
      have s3 : (wr.alloc (.cells #[.bool xl, .slice A1 n1 c1, .slice A2 n2 c2, .slice A3 n3 c3] 44)).cell? ⟨wr.heap.size, 3, none⟩ = some (.slice A3 n3 c3) := SV.out.cell 3
      have y0 : (wr.alloc (.cells #[.bool xl, .slice A1 n1 c1, .slice A2 n2 c2, .slice A3 n3 c3] 44)).cell? ⟨w.heap.size + 1 + 1 + 1, 0, none⟩ = some (.slice (some ⟨w.heap.size + 1 + 1, 0, none⟩) D.length D.length) := ON1.out.cell 0
      have hmul : (k + 1) * 4 ≤ D.length * 4 := Nat.mul_le_mul_right 4 hlt
      clear o0
      have hgw : w.heap.size + 1 + 1 < wr.heap.size := HG.out.lt
      have hne1 : ¬ (w.heap.size + 1 + 1 = wr.heap.size) := by omega
      have hne2 : ¬ (wr.heap.size = w.heap.size + 1 + 1) := by omega
      go_wp2_with fail
      go_region_held3 (fun w' => w'.cell? ⟨w.heap.size + 1 + 1 + 1, 0, none⟩ = some (.slice (some ⟨w.heap.size + 1 + 1, 0, none⟩) D.length D.length) ∧ w'.cell? ⟨wr.heap.size, 0, none⟩ = some (.bool xl) ∧ w'.cell? ⟨wr.heap.size, 1, none⟩ = some (.slice A1 n1 c1) ∧ w'.cell? ⟨wr.heap.size, 2, none⟩ = some (.slice A2 n2 c2) ∧ w'.cell? ⟨wr.heap.size, 3, none⟩ = some (.slice A3 n3 c3))
        (first | exact ⟨y0, s0, s1, s2, s3⟩ | go_keep)
        (first
          | (go_at_call 32
             refine (copiedS_any ((R1.out.wb WN.out).wb WV.out.drew) P1.out t1 ((R2.out.wb WN.out).wb WV.out.drew) P2.out t2 ((R3.out.wb WN.out).wb WV.out.drew) P3.out t3).mono ?_
             rintro e w1 ⟨Y1, d1, Y2, d2, Y3, d3, fp, rfl, hm, hfp, hb1⟩
             have HM1 := Lib.hid hm
             have HF1 := Lib.hid (show ∀ x ∈ fp, wr.heap.size ≤ x ∧ x < w1.heap.size from fun x hx => by have h := hfp x hx; simp at h; omega)
             have WB1 := Lib.hid (show Below wr.heap.size wr w1 from WV.out.drew.trans (hb1.mono WV.out.size))
             have OZ := Lib.hid (Box.below (w := (wr.alloc (.cells #[.bool xl, .slice A1 n1 c1, .slice A2 n2 c2, .slice A3 n3 c3] 44)).drew) ON1.out hb1 ON1.out.lt)
             have SZ := Lib.hid (Box.below (w := (wr.alloc (.cells #[.bool xl, .slice A1 n1 c1, .slice A2 n2 c2, .slice A3 n3 c3] 44)).drew) SV.out hb1 SV.out.lt)
             have EZ := Lib.hid (EN.out.below WB1.out EN.out.lt)
             clear hm hfp hb1 y0 s0 s1 s2 s3
             have y0 := OZ.out.cell 0
             have s0 := SZ.out.cell 0
             have s1 := SZ.out.cell 1
             have s2 := SZ.out.cell 2
             have s3 := SZ.out.cell 3
             simp at y0 s0 s1 s2 s3
             have hgT : w.heap.size + 1 + 1 < w1.heap.size := Nat.lt_of_lt_of_le HG.out.lt WB1.out.size
             have f0 : w1.frozen? ⟨w.heap.size + 1 + 1, k * 4, none⟩ = false := (WB1.out.frozen (p := ⟨w.heap.size + 1 + 1, k * 4, none⟩) HG.out.lt).trans (HG.out.frz _)
             have f1 : w1.frozen? ⟨w.heap.size + 1 + 1, k * 4 + 1, none⟩ = false := (WB1.out.frozen (p := ⟨w.heap.size + 1 + 1, k * 4 + 1, none⟩) HG.out.lt).trans (HG.out.frz _)
             have f2 : w1.frozen? ⟨w.heap.size + 1 + 1, k * 4 + 2, none⟩ = false := (WB1.out.frozen (p := ⟨w.heap.size + 1 + 1, k * 4 + 2, none⟩) HG.out.lt).trans (HG.out.frz _)
             have f3 : w1.frozen? ⟨w.heap.size + 1 + 1, k * 4 + 3, none⟩ = false := (WB1.out.frozen (p := ⟨w.heap.size + 1 + 1, k * 4 + 3, none⟩) HG.out.lt).trans (HG.out.frz _)
             obtain ⟨v0, t0⟩ : ∃ v, w1.cell? ⟨w.heap.size + 1 + 1, k * 4, none⟩ = some v := by
               obtain ⟨v, hv⟩ := HG.out.rest (k * 4) (by omega)
               exact ⟨v, (WB1.out.cell (p := ⟨w.heap.size + 1 + 1, k * 4, none⟩) HG.out.lt).trans hv⟩
             obtain ⟨v1, t1⟩ : ∃ v, w1.cell? ⟨w.heap.size + 1 + 1, k * 4 + 1, none⟩ = some v := by
               obtain ⟨v, hv⟩ := HG.out.rest (k * 4 + 1) (by omega)
               exact ⟨v, (WB1.out.cell (p := ⟨w.heap.size + 1 + 1, k * 4 + 1, none⟩) HG.out.lt).trans hv⟩
             obtain ⟨v2, t2⟩ : ∃ v, w1.cell? ⟨w.heap.size + 1 + 1, k * 4 + 2, none⟩ = some v := by
               obtain ⟨v, hv⟩ := HG.out.rest (k * 4 + 2) (by omega)
               exact ⟨v, (WB1.out.cell (p := ⟨w.heap.size + 1 + 1, k * 4 + 2, none⟩) HG.out.lt).trans hv⟩
             obtain ⟨v3, t3⟩ : ∃ v, w1.cell? ⟨w.heap.size + 1 + 1, k * 4 + 3, none⟩ = some v := by
               obtain ⟨v, hv⟩ := HG.out.rest (k * 4 + 3) (by omega)
               exact ⟨v, (WB1.out.cell (p := ⟨w.heap.size + 1 + 1, k * 4 + 3, none⟩) HG.out.lt).trans hv⟩
             have hend := WB1.out.size))
      clear y0 s0 s1 s2 s3 f0 f1 f2 f3 t0 t1 t2 t3
      go_wp2_with fail
      go_roundw
      case rel => exact ⟨k + 1, _, by omega, by go_num, HST.out w1 fp [.bool xl, .slice Y1 n1 d1, .slice Y2 n2 d2, .slice Y3 n3 d3] WB1.out (by rw [show D.getD k tyBytesOf.z = (xl, xa, xg, xt) from HSD.out]; exact HM1.out) HF1.out rfl, (Box.other (Box.other (Box.other (Box.other EZ.out (by show w.heap.size + 1 ≠ w.heap.size + 1 + 1; omega) _) (by show w.heap.size + 1 ≠ w.heap.size + 1 + 1; omega) _) (by show w.heap.size + 1 ≠ w.heap.size + 1 + 1; omega) _) (by show w.heap.size + 1 ≠ w.heap.size + 1 + 1; omega) _), (Box.other (Box.other (Box.other (Box.other OZ.out (by show w.heap.size + 1 + 1 + 1 ≠ w.heap.size + 1 + 1; omega) _) (by show w.heap.size + 1 + 1 + 1 ≠ w.heap.size + 1 + 1; omega) _) (by show w.heap.size + 1 + 1 + 1 ≠ w.heap.size + 1 + 1; omega) _) (by show w.heap.size + 1 + 1 + 1 ≠ w.heap.size + 1 + 1; omega) _), (((((WN.out.trans (WB1.out.mono WN.out.size)).setCell (by show w.heap.size ≤ w.heap.size + 1 + 1; omega) _).setCell (by show w.heap.size ≤ w.heap.size + 1 + 1; omega) _).setCell (by show w.heap.size ≤ w.heap.size + 1 + 1; omega) _).setCell (by show w.heap.size ≤ w.heap.size + 1 + 1; omega) _)⟩
      case measure => simp [intOf]; omega
    · obtain rfl : k = D.length := by omega
      have hk1 : ¬ ((D.length : Int) < D.length) := by omega
      obtain ⟨fp, hrow, hfp⟩ := HG.out.done (w := (w.alloc (.cells #[] 28)).alloc (.cells #[] 28)) (by simp only [World.size_alloc]; omega)
      have HR := Lib.hid hrow
      have HF := Lib.hid (show ∀ x ∈ fp, w.heap.size + 1 + 1 ≤ x ∧ x < wr.heap.size from fun x hx => by have h := hfp x hx; simp only [World.size_alloc] at h; exact h)
      clear hrow hfp
      have e0 := EN.out.cell 0
      have el := EN.out.lt
      have ef := EN.out.frz 0
      simp at e0
      go_wp2_with fail
      have z0 := (EN.out.set 0 (.slice (some ⟨w.heap.size + 1 + 1, 0, none⟩) D.length D.length)).cell 0
      simp at z0
      refine bodyPost_ret (v := .agg #[.slice (some ⟨w.heap.size + 1 + 1, 0, none⟩) D.length D.length]) (by simp [results, Try.results21, go_sem, z0]) rfl ?_
      refine ⟨some ⟨w.heap.size + 1 + 1, 0, none⟩, D.length, rfl, fp, ⟨_, _, _, rfl, rfl, hL2, RowO.off HR.out (fun hx => ?_) 0 _⟩, fun x hx => ⟨?_, ?_⟩, WN.out.setCell (by simp) _⟩
      · have h := HF.out _ hx
        omega
      · have h := HF.out _ hx
        omega
      · have h := HF.out _ hx
        rw [World.size_setCell]
        exact h.2
end Go.Proofs.Ytnodmblieocamaa
