/-
  The program's MemNew.
-/
import Derived.Test.YtfmbadhiflaldaaMNew2
import Derived.Deep.RegionHeld3
namespace Go.Proofs.Ytfmbadhiflaldaa
open Go.RowKit

def isS : Option Value → Bool
  | some (.string s) => s.size == 0
  | _ => false
def isN : Option Value → Bool
  | some (.slice none 0 0) => true
  | _ => false
def isF : Option Value → Bool
  | some (.bool false) => true
  | _ => false
def isZ : Option Value → Bool
  | some (.int .i64 0) => true
  | _ => false
theorem of_isS {o : Option Value} (h : isS o = true) : o = some (.string .empty) := by
  unfold isS at h
  split at h
  · rename_i s
    have hs : s.size = 0 := by simpa using h
    have : s = .empty := ByteArray.ext (Array.eq_empty_of_size_eq_zero hs)
    rw [this]
  · cases h
theorem of_isN {o : Option Value} (h : isN o = true) : o = some (.slice none 0 0) := by
  unfold isN at h
  split at h
  · rfl
  · cases h
theorem of_isF {o : Option Value} (h : isF o = true) : o = some (.bool false) := by
  unfold isF at h
  split at h
  · rfl
  · cases h
theorem of_isZ {o : Option Value} (h : isZ o = true) : o = some (.int .i64 0) := by
  unfold isZ at h
  split at h
  · rfl
  · cases h
theorem zc_texts : (List.range 24).all (fun k => isS Try.zeroCells90[k * 4 + 2]?) = true := by kernel_rfl
theorem zc_bys : (List.range 24).all (fun k => isN Try.zeroCells90[k * 4 + 3]?) = true := by kernel_rfl
theorem zc_lives : (List.range 5).all (fun k => isF Try.zeroCells90[96 + k * 66]?) = true := by kernel_rfl
theorem zc_hands : isZ Try.zeroCells90[426]? = true := by kernel_rfl
theorem zc_text (k : Nat) (hk : k < 24) : Try.zeroCells90[k * 4 + 2]? = some (.string .empty) := of_isS (List.all_eq_true.1 zc_texts k (List.mem_range.2 hk))
theorem zc_by (k : Nat) (hk : k < 24) : Try.zeroCells90[k * 4 + 3]? = some (.slice none 0 0) := of_isN (List.all_eq_true.1 zc_bys k (List.mem_range.2 hk))
theorem zc_live (k : Nat) (hk : k < 5) : Try.zeroCells90[96 + k * 66]? = some (.bool false) := of_isF (List.all_eq_true.1 zc_lives k (List.mem_range.2 hk))
theorem zc_hand : Try.zeroCells90[426]? = some (.int .i64 0) := of_isZ zc_hands
theorem zP_at (k : Nat) (hk : k < 12) : zP.1.getD k elS.z = .empty ∧ zP.2.getD k elI.z = 0 := by
  constructor
  · show (List.replicate 12 ByteArray.empty).getD k .empty = .empty
    rw [List.getD_eq_getElem?_getD, List.getElem?_replicate, if_pos hk]; rfl
  · show (List.replicate 12 (0 : Int)).getD k 0 = 0
    rw [List.getD_eq_getElem?_getD, List.getElem?_replicate, if_pos hk]; rfl
section
variable {w : World} {L : Nat}
theorem zPlaces (h : Box w L Try.zeroCells90 90) (q : Nat) (hq : q ≤ 12) : Places w L (q * 4) zP.1 zP.2 where
  lt := h.lt
  tl := by simp [zP]
  rl := by simp [zP]
  text := fun k hk => by
    rw [(zP_at k hk).1, h.cell, show q * 4 + k * 4 + 2 = (q + k) * 4 + 2 by omega]
    exact zc_text (q + k) (by omega)
  by_ := fun k hk => ⟨none, 0, 0, by
    rw [h.cell, show q * 4 + k * 4 + 3 = (q + k) * 4 + 3 by omega]
    exact zc_by (q + k) (by omega), (zP_at k hk).2⟩
set_option maxHeartbeats 8000000 in
theorem memZero (h : Box w L Try.zeroCells90 90) :
    Calls Try.prog 43 #[.pointer (some ⟨L, 0, none⟩)] w fun e w' => ∃ x0 x1 x2 x3 x4 fp, e = .returned (.agg #[x0, x1, x2, x3, x4, .int .i64 0]) ∧ tyMem.M w' fp [x0, x1, x2, x3, x4, .int .i64 0] newM ∧ (∀ x ∈ fp, w.heap.size ≤ x ∧ x < w'.heap.size) ∧ Below w.heap.size w w' := by
  have m5 : ∀ u : World, (Instr.makeSlice 27 (.int .i64 5) (.int .i64 5)).run Try.prog u = .ok (.slice (some ⟨u.heap.size, 0, none⟩) 5 5) (u.alloc (.cells (madeCells #[.bool false, .slice none 0 0, .slice none 0 0] 15) 45)) := mkSpc 5 (by omega)
  have HL := Lib.hid h
  have hL := h.lt
  clear h
  have hG := Grow.made (T := tySpace) (K := 3) (l := List.replicate 5 zSp) (w.alloc (.cells #[.slice none 0 0, .slice none 0 0, .slice none 0 0, .slice none 0 0, .slice none 0 0, .int .i64 0] 29)) 5 45 #[.bool false, .slice none 0 0, .slice none 0 0] (fun _ => [])
  simp only [World.size_alloc] at hG
  have HG := Lib.hid hG
  have B0 := Lib.hid ((Box.new w #[.slice none 0 0, .slice none 0 0, .slice none 0 0, .slice none 0 0, .slice none 0 0, .int .i64 0] 29).alloc (.cells (madeCells #[.bool false, .slice none 0 0, .slice none 0 0] 15) 45))
  have HW := Lib.hid (show Below w.heap.size w ((w.alloc (.cells #[.slice none 0 0, .slice none 0 0, .slice none 0 0, .slice none 0 0, .slice none 0 0, .int .i64 0] 29)).alloc (.cells (madeCells #[.bool false, .slice none 0 0, .slice none 0 0] 15) 45)) from ((Below.refl _ _).alloc (Nat.le_refl _) _).alloc (by simp only [World.size_alloc]; omega) _)
  clear hG
  go_enter Try.func43, Try.ntmps43
  go_wp2_with fail
  go_loopw [8] (fun i wr => ∃ (k : Nat) (fs : Nat → List Nat), k ≤ 5 ∧ i = .int .i64 k ∧ Grow tySpace 3 wr (w.heap.size + 1) 5 (List.replicate 5 zSp) k fs ∧ (∀ j, fs j = []) ∧ Box wr w.heap.size #[.slice none 0 0, .slice none 0 0, .slice none 0 0, .slice none 0 0, .slice none 0 0, .int .i64 0] 29 ∧ Below w.heap.size w wr) (fun i _ => 5 - (intOf i).toNat)
  case atStart => exact ⟨0, fun _ => [], by omega, rfl, HG.out, fun _ => rfl, B0.out, HW.out⟩
  case round =>
    obtain ⟨k, fs, hk, rfl, hg, hfs, hb0, hb⟩ := hrel
    clear HG B0 HW
    have HG := Lib.hid hg
    have HFS := Lib.hid hfs
    have B0 := Lib.hid hb0
    have HW := Lib.hid hb
    clear hg hfs hb0 hb
    by_cases hlt : k < 5
    · have hk1 : (k : Int) < 5 := by omega
      have hk2 : (0 : Int) ≤ k := by omega
      have hlive : wr.cell? ⟨L, 96 + k * 66, none⟩ = some (.bool false) := by
        rw [kc HW.out _ _ hL, HL.out.cell]
        exact zc_live k hlt
      go_wp2_with fail
      refine (spaceDead hlive).mono ?_
      rintro e w1 ⟨rfl, hb1⟩
      have HW1 := Lib.hid (HW.out.trans (hb1.mono HW.out.size))
      have B1 := Lib.hid (B0.out.below hb1 B0.out.lt)
      have hsz := HG.out.lt
      have hz5 : (List.replicate 5 zSp).getD k tySpace.z = zSp := by rw [List.getD_eq_getElem?_getD, List.getElem?_replicate, if_pos hlt]; rfl
      have HG1 := Lib.hid (HG.out.step (w1 := w1) (fp := []) (ys := [.bool false, .slice none 0 0, .slice none 0 0]) hlt hb1 (by rw [hz5]; exact deadM _) (fun b hb => absurd hb List.not_mem_nil) rfl)
      obtain ⟨v0, e0⟩ := HG.out.rest (k * 3) (by omega)
      obtain ⟨v1, e1⟩ := HG.out.rest (k * 3 + 1) (by omega)
      obtain ⟨v2, e2⟩ := HG.out.rest (k * 3 + 2) (by omega)
      rw [← hb1.cell (p := ⟨w.heap.size + 1, k * 3, none⟩) hsz] at e0
      rw [← hb1.cell (p := ⟨w.heap.size + 1, k * 3 + 1, none⟩) hsz] at e1
      rw [← hb1.cell (p := ⟨w.heap.size + 1, k * 3 + 2, none⟩) hsz] at e2
      have g0 := (hb1.frozen (p := ⟨w.heap.size + 1, k * 3, none⟩) hsz).trans (HG.out.frz _)
      have g1 := (hb1.frozen (p := ⟨w.heap.size + 1, k * 3 + 1, none⟩) hsz).trans (HG.out.frz _)
      have g2 := (hb1.frozen (p := ⟨w.heap.size + 1, k * 3 + 2, none⟩) hsz).trans (HG.out.frz _)
      have HB := Lib.hid (fun v0 v1 v2 => ((HW1.out.setCell (p := ⟨w.heap.size + 1, k * 3, none⟩) (Nat.le_succ _) v0).setCell (p := ⟨w.heap.size + 1, k * 3 + 1, none⟩) (Nat.le_succ _) v1).setCell (p := ⟨w.heap.size + 1, k * 3 + 2, none⟩) (Nat.le_succ _) v2)
      have HFB := Lib.hid ((((Foot.refl w1 [w.heap.size + 1]).set (b := w.heap.size + 1) (by simp) (k * 3) (.bool false)).set (b := w.heap.size + 1) (by simp) (k * 3 + 1) (.slice none 0 0)).set (b := w.heap.size + 1) (by simp) (k * 3 + 2) (.slice none 0 0))
      clear hlive hb1 hz5
      go_wp2_with fail
      go_roundw
      case rel => exact ⟨k + 1, _, by omega, by go_num, HG1.out, fun j => by split <;> first | rfl | exact HFS.out j, HFB.out.box B1.out (by simp), HB.out _ _ _⟩
      case measure => simp [intOf]; omega
    · obtain rfl : k = 5 := by omega
      have HLr := Lib.hid (HL.out.below HW.out hL)
      have hh0 : wr.cell? ⟨L, 426, none⟩ = some (.int .i64 0) := by
        rw [HLr.out.cell]
        exact zc_hand
      have hlw := HLr.out.lt
      have HLd : Hid (Box wr.drew L Try.zeroCells90 90) := Lib.hid HLr.out
      have B0d : Hid (Box wr.drew w.heap.size #[.slice none 0 0, .slice none 0 0, .slice none 0 0, .slice none 0 0, .slice none 0 0, .int .i64 0] 29) := Lib.hid B0.out
      have HWd : Hid (Below w.heap.size w wr.drew) := Lib.hid HW.out.drew
      have hhd : Hid (wr.drew.cell? ⟨L, 426, none⟩ = some (.int .i64 0)) := Lib.hid hh0
      have hneL1 : ¬ w.heap.size = L := by omega
      have hneL2 : ¬ L = w.heap.size := by omega
      have hg1 := HG.out.lt
      have hwz := B0.out.lt
      go_wp2_with fail
      go_region_held3 (fun w' => w'.cell? ⟨L, 426, none⟩ = some (.int .i64 0))
        (first | with_reducible exact hh2 | with_reducible exact hh1 | with_reducible exact hhd.out | go_keep)
        (first
          | (go_at_call 87
             refine (pagesOf_any (zPlaces HL9.out 12 (by omega))).mono ?_
             rintro e w10 ⟨b2, b3, rfl, hm2, hf2, hb2⟩
             have hh2 := (hb2.cell (p := ⟨L, 426, none⟩) HL9.out.lt).trans hh1
             have B10 := Lib.hid (B9.out.below hb2 B9.out.lt)
             have p0 := B10.out.cell 0
             have p1 := B10.out.cell 1
             have p2 := B10.out.cell 2
             have p3 := B10.out.cell 3
             have p4 := B10.out.cell 4
             have p5 := B10.out.cell 5
             have f0 := B10.out.frz 0
             have f1 := B10.out.frz 1
             have f2 := B10.out.frz 2
             have f3 := B10.out.frz 3
             have f4 := B10.out.frz 4
             have f5 := B10.out.frz 5
             have pl := B10.out.lt
             simp at p0 p1 p2 p3 p4 p5)
          | (go_at_call 87
             refine (pagesOf_any (zPlaces HLd.out 0 (by omega))).mono ?_
             rintro e w9 ⟨b0, b1, rfl, hm1, hf1, hb1⟩
             have hh1 := (hb1.cell (p := ⟨L, 426, none⟩) hlw).trans hhd.out
             have HL9 := Lib.hid (HLd.out.below hb1 hlw)
             have B9 := Lib.hid (B0d.out.below hb1 hwz)))
      go_wp2_with fail
      have FS := Lib.hid (show Foot w10 ((((((w10.setCell ⟨w.heap.size, 0, none⟩ (.slice (some ⟨b0, 0, none⟩) 12 12)).setCell ⟨w.heap.size, 1, none⟩ (.slice (some ⟨b1, 0, none⟩) 12 12)).setCell ⟨w.heap.size, 2, none⟩ (.slice (some ⟨b2, 0, none⟩) 12 12)).setCell ⟨w.heap.size, 3, none⟩ (.slice (some ⟨b3, 0, none⟩) 12 12)).setCell ⟨w.heap.size, 4, none⟩ (.slice (some ⟨w.heap.size + 1, 0, none⟩) 5 5)).setCell ⟨w.heap.size, 5, none⟩ (.int .i64 0)) [w.heap.size] from
        ((((((Foot.refl w10 [w.heap.size]).set (by simp) _ _).set (by simp) _ _).set (by simp) _ _).set (by simp) _ _).set (by simp) _ _).set (by simp) _ _)
      refine bodyPost_ret (v := .agg #[.slice (some ⟨b0, 0, none⟩) 12 12, .slice (some ⟨b1, 0, none⟩) 12 12, .slice (some ⟨b2, 0, none⟩) 12 12, .slice (some ⟨b3, 0, none⟩) 12 12, .slice (some ⟨w.heap.size + 1, 0, none⟩) 5 5, .int .i64 0]) (by simp [results, Try.results43, go_sem, p0, p1, p2, p3, p4, p5]) rfl ?_
      obtain ⟨fp, hro, hfp⟩ := HG.out.done (w := w.alloc (.cells #[] 0)) (by simp)
      simp only [World.size_alloc] at hfp
      generalize hW6 : ((((((w10.setCell ⟨w.heap.size, 0, none⟩ (.slice (some ⟨b0, 0, none⟩) 12 12)).setCell ⟨w.heap.size, 1, none⟩ (.slice (some ⟨b1, 0, none⟩) 12 12)).setCell ⟨w.heap.size, 2, none⟩ (.slice (some ⟨b2, 0, none⟩) 12 12)).setCell ⟨w.heap.size, 3, none⟩ (.slice (some ⟨b3, 0, none⟩) 12 12)).setCell ⟨w.heap.size, 4, none⟩ (.slice (some ⟨w.heap.size + 1, 0, none⟩) 5 5)).setCell ⟨w.heap.size, 5, none⟩ (.int .i64 0)) = W6 at *
      have h6 : W6.heap.size = w10.heap.size := by rw [← hW6]; simp only [World.size_setCell]
      clear hW6
      have hd : wr.drew.heap.size = wr.heap.size := rfl
      rw [hd] at hf1 hb1
      have hs1 := hb1.size
      rw [hd] at hs1
      have hs2 := hb2.size
      have hblk : ∀ x, x < wr.heap.size → x ≠ w.heap.size → W6.heap[x]? = wr.heap[x]? := fun x hx hne =>
        (FS.out.block x (by omega) (by rw [List.mem_singleton]; exact hne)).trans ((hb2.block x (by omega)).trans (hb1.block x hx))
      refine ⟨_, _, _, _, _, [b0, b1] ++ ([b2, b3] ++ (fp ++ [])), rfl, memM (c := 5) (Ty.mf (Ty.mb hm1 hb2 fun x hx => (hf1 x hx).2) FS.out fun x hx => ⟨?_, ?_⟩) (Ty.mf hm2 FS.out fun x hx => ⟨(hf2 x hx).2, ?_⟩) (hro.frame fun x hx => hblk x (hfp x hx).2 (by have := hfp x hx; omega)) ?_ ?_ ?_, ?_, ?_⟩
      · have := hf1 x hx; omega
      · have := hf1 x hx; rw [List.mem_singleton]; omega
      · have := hf2 x hx; rw [List.mem_singleton]; omega
      · intro x hx hx2
        have h1 := hf1 x hx
        have h2 := hf2 x hx2
        omega
      · intro x hx hx2
        have h1 := hf1 x hx
        have h2 := hfp x hx2
        omega
      · intro x hx hx2
        have h1 := hf2 x hx
        have h2 := hfp x hx2
        omega
      · intro x hx
        rw [h6]
        have hwz2 := HW.out.size
        rcases List.mem_append.1 hx with h | h
        · have h1 := hf1 x h
          omega
        · rcases List.mem_append.1 h with h | h
          · have h1 := hf2 x h
            omega
          · rw [List.append_nil] at h
            have h1 := hfp x h
            omega
      · exact HWd.out.trans (((hb1.trans (hb2.mono hs1)).mono (by have := HW.out.size; omega)).trans (FS.out.below (by have := HW.out.size; omega) (fun x hx => by rw [List.mem_singleton] at hx; omega)))
set_option maxHeartbeats 4000000 in
theorem memNewI : Calls Try.prog 14 #[] w fun e w' => ∃ x0 x1 x2 x3 x4 fp, e = .returned (.agg #[x0, x1, x2, x3, x4, .int .i64 0]) ∧ tyMem.M w' fp [x0, x1, x2, x3, x4, .int .i64 0] newM ∧ (∀ x ∈ fp, w.heap.size ≤ x ∧ x < w'.heap.size) ∧ Below w.heap.size w w' := by
  have HW := Lib.hid (show Below w.heap.size w ((w.alloc (.cells #[.slice none 0 0, .slice none 0 0, .slice none 0 0, .slice none 0 0, .slice none 0 0, .int .i64 0] 29)).alloc (.cells Try.zeroCells90 90)) from ((Below.refl _ _).alloc (Nat.le_refl _) _).alloc (by simp only [World.size_alloc]; omega) _)
  have B0 := Lib.hid ((Box.new w #[.slice none 0 0, .slice none 0 0, .slice none 0 0, .slice none 0 0, .slice none 0 0, .int .i64 0] 29).alloc (.cells Try.zeroCells90 90))
  have hZ := Box.new (w.alloc (.cells #[.slice none 0 0, .slice none 0 0, .slice none 0 0, .slice none 0 0, .slice none 0 0, .int .i64 0] 29)) Try.zeroCells90 90
  simp only [World.size_alloc] at hZ
  have HZ := Lib.hid hZ
  clear hZ
  go_enter Try.func14, Try.ntmps14
  go_wp2_with fail
  refine (memZero HZ.out).mono ?_
  rintro e w1 ⟨x0, x1, x2, x3, x4, fp, rfl, hm, hf, hb⟩
  obtain ⟨A0, n0, c0, A1, n1, c1, A2, n2, c2, A3, n3, c3, A4, n4, c4, hsh⟩ := tyMem_shM hm
  simp only [List.cons.injEq, and_true] at hsh
  obtain ⟨rfl, rfl, rfl, rfl, rfl, -⟩ := hsh
  have HM := Lib.hid hm
  have HF := Lib.hid (fun x hx => show w.heap.size < x ∧ x < w1.heap.size from by have h := hf x hx; simp only [World.size_alloc] at h; omega)
  have HW1 := Lib.hid (HW.out.trans (hb.mono HW.out.size))
  have B1 := Lib.hid (B0.out.below hb B0.out.lt)
  clear hm hf hb
  have p0 := B1.out.cell 0
  have p1 := B1.out.cell 1
  have p2 := B1.out.cell 2
  have p3 := B1.out.cell 3
  have p4 := B1.out.cell 4
  have p5 := B1.out.cell 5
  have f0 := B1.out.frz 0
  have f1 := B1.out.frz 1
  have f2 := B1.out.frz 2
  have f3 := B1.out.frz 3
  have f4 := B1.out.frz 4
  have f5 := B1.out.frz 5
  have pl := B1.out.lt
  simp at p0 p1 p2 p3 p4 p5
  go_wp2_with fail
  have FS := Lib.hid ((((((((Foot.refl w1 [w.heap.size]).set (b := w.heap.size) (by simp) 0 (.slice A0 n0 c0)).set (b := w.heap.size) (by simp) 1 (.slice A1 n1 c1)).set (b := w.heap.size) (by simp) 2 (.slice A2 n2 c2)).set (b := w.heap.size) (by simp) 3 (.slice A3 n3 c3)).set (b := w.heap.size) (by simp) 4 (.slice A4 n4 c4)).set (b := w.heap.size) (by simp) 5 (.int .i64 0)))
  refine bodyPost_ret (v := .agg #[.slice A0 n0 c0, .slice A1 n1 c1, .slice A2 n2 c2, .slice A3 n3 c3, .slice A4 n4 c4, .int .i64 0]) (by simp [results, Try.results14, go_sem, p0, p1, p2, p3, p4, p5]) rfl ⟨_, _, _, _, _, fp, rfl, Ty.mf HM.out FS.out fun x hx => ⟨(HF.out x hx).2, by have := HF.out x hx; rw [List.mem_singleton]; omega⟩, fun x hx => by have := HF.out x hx; simp only [World.size_setCell]; omega, HW1.out.trans (FS.out.below (by omega) (fun x hx => by rw [List.mem_singleton] at hx; omega))⟩
end
end Go.Proofs.Ytfmbadhiflaldaa
