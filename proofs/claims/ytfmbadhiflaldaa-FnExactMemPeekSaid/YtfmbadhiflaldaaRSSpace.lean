/-
  The laws' helpers on a slice of Space.
-/
import Derived.Test.YtfmbadhiflaldaaRSpace
namespace Go.Proofs.Ytfmbadhiflaldaa
open Go.RowKit

theorem infoSpace : ∃ i, Try.prog.info? 45 = some i ∧ i.zero = some (.agg #[.bool false, .slice none 0 0, .slice none 0 0]) ∧ i.size = 3 ∧ i.bytes = 56 := info_parts (by kernel_rfl : (Try.prog.info? 45).map (fun i => (i.zero, i.size, i.bytes)) = some (some (.agg #[.bool false, .slice none 0 0, .slice none 0 0]), 3, 56))

def tySSpace : Ty (List (Bool × List EArea × List ESlot)) := tyN tySpace 3
def totSSpace (D : List (Bool × List EArea × List ESlot)) : Nat := D.length + (D.map totSpace).sum
def wfSSpace (D : List (Bool × List EArea × List ESlot)) : Prop := ∀ d ∈ D, wfSpace d
/-- the marks of one element -/
def cntESpace (D : Bool × List EArea × List ESlot) : Int := 1 + cntSArea D.2.1 + cntSSlot D.2.2
def mksESpace (k : Int) (D : Bool × List EArea × List ESlot) : Bool × List EArea × List ESlot := (((k) % 3 == 0), mksSArea (k + 1) D.2.1, mksSSlot (k + 1 + cntSArea D.2.1) D.2.2)
def cntSSpace (D : List (Bool × List EArea × List ESlot)) : Int := (D.map cntESpace).sum
def mksSSpace (k : Int) (D : List (Bool × List EArea × List ESlot)) : List (Bool × List EArea × List ESlot) := mkL mksESpace cntESpace k D
theorem cntESpace_le (D : Bool × List EArea × List ESlot) : 0 ≤ cntESpace D ∧ cntESpace D ≤ 8 + 8 * (totSpace D : Int) := by
  have h1 := cntSArea_le D.2.1
  have h2 := cntSSlot_le D.2.2
  unfold cntESpace totSpace
  omega
theorem cntSSpace_le (D : List (Bool × List EArea × List ESlot)) : 0 ≤ cntSSpace D ∧ cntSSpace D ≤ 8 * (totSSpace D : Int) := sum_bounds cntESpace_le D
theorem totESpace_mk (k : Int) (D : Bool × List EArea × List ESlot) : totSpace (mksESpace k D) = totSpace D := by simp only [totSpace, mksESpace, totSArea_mk, totSSlot_mk]
theorem cntESpace_mk (k : Int) (D : Bool × List EArea × List ESlot) : cntESpace (mksESpace k D) = cntESpace D := by simp only [cntESpace, mksESpace, cntSArea_mk, cntSSlot_mk]
theorem totSSpace_mk (k : Int) (D : List (Bool × List EArea × List ESlot)) : totSSpace (mksSSpace k D) = totSSpace D := by unfold totSSpace mksSSpace; rw [mkL_len, mkL_sumN totESpace_mk]
theorem cntSSpace_mk (k : Int) (D : List (Bool × List EArea × List ESlot)) : cntSSpace (mksSSpace k D) = cntSSpace D := mkL_sum cntESpace_mk k D
theorem tySSpace_sh {w : World} {hi : Nat} {cs : List Value} {D : List (Bool × List EArea × List ESlot)} (h : tySSpace.R w hi cs D) : ∃ (A : Option Addr) (n c : Nat), cs = [.slice A n c] := by
  obtain ⟨A, n, c, rfl, _⟩ := h
  exact ⟨A, n, c, rfl⟩
theorem tySSpace_shM {w : World} {fp : List Nat} {cs : List Value} {D : List (Bool × List EArea × List ESlot)} (h : tySSpace.M w fp cs D) : ∃ (A : Option Addr) (n c : Nat), cs = [.slice A n c] := by
  obtain ⟨A, n, c, rfl, _⟩ := h
  exact ⟨A, n, c, rfl⟩
section
variable {w : World} {hi hi2 : Nat} {D : List (Bool × List EArea × List ESlot)} {fp : List Nat} {x0 y0 : Value}
theorem szY_SSpace (left : Int) (hl : 0 ≤ left) (hl2 : left ≤ 1048576) (hw : wfSSpace D) (h : tySSpace.R w hi [x0] D) :
    Calls Try.prog 74 #[x0, .int .i64 left] w fun e w' => ∃ z : Int, e = .returned (.int .i64 z) ∧ (0 ≤ z → (totSSpace D : Int) + z ≤ left) ∧ -1 ≤ z ∧ Below w.heap.size w w' := by
  obtain ⟨A, n, c, e, hL, hn, hr⟩ := h
  obtain rfl : x0 = .slice A n c := by simpa using e
  have q : n ≤ 9223372036854775807 := by unfold maxLen at hn; omega
  have HR := Lib.hid hr
  have HL := Lib.hid hL
  have HW := Lib.hid hw
  unfold totSSpace
  rw [hL]
  clear e hr hn hw hL
  by_cases hle : (n : Int) ≤ left
  case neg =>
    go_enter Try.func74, Try.ntmps74
    go_wp2
    go_ret
    exact ⟨_, rfl, fun h => by omega, by omega, Below.refl _ _⟩
  go_enter Try.func74, Try.ntmps74
  go_wp2_with fail
  go_loopw [1, 5] (fun l i wr => ∃ (k : Nat) (z : Int), k ≤ n ∧ 0 ≤ z ∧ (n : Int) + (upN totSpace D k : Int) + z ≤ left ∧ i = .int .i64 k ∧ l = .int .i64 z ∧ Below w.heap.size w wr) (fun _ i _ => n - (intOf i).toNat)
  case atStart => exact ⟨0, _, Nat.zero_le _, by omega, by rw [upN_zero]; omega, rfl, rfl, Below.refl _ _⟩
  case round =>
    obtain ⟨k, z, hk, hz0, hz1, rfl, rfl, hb⟩ := hrel
    have HB := Lib.hid hb
    clear hb
    by_cases hlt : k < n
    · have hkd : k < D.length := by rw [HL.out]; exact hlt
      have hwk := Lib.hid (HW.out _ (getD_mem tySpace.z hkd))
      have HS := Lib.hid (upN_step tySpace.z (f := totSpace) hkd)
      have hk1 : (k : Int) < n := by omega
      have hk2 : (0 : Int) ≤ k := by omega
      obtain ⟨b0, o0, rfl, _, hb0, hc⟩ := HR.out (by omega)
      obtain ⟨cs, hcl, hat, hR⟩ := hc k hlt
      have HE := Lib.hid hR
      obtain ⟨A0_1, n0_1, c0_1, A0_2, n0_2, c0_2, hcs⟩ := tySpace_sh hR
      have c0 : w.cell? ⟨b0, o0 + k * 3, none⟩ = some (.bool (D.getD k tySpace.z).1) := by
        have h := hat 0 (by rw [hcl]; decide)
        rw [hcs] at h
        exact h
      have c1 : w.cell? ⟨b0, o0 + k * 3 + 1, none⟩ = some (.slice A0_1 n0_1 c0_1) := by
        have h := hat 1 (by rw [hcl]; decide)
        rw [hcs] at h
        exact h
      have c2 : w.cell? ⟨b0, o0 + k * 3 + 2, none⟩ = some (.slice A0_2 n0_2 c0_2) := by
        have h := hat 2 (by rw [hcl]; decide)
        rw [hcs] at h
        exact h
      rw [hcs] at HE
      rw [← kc HB.out _ _ hb0] at c0 c1 c2
      clear hc hcl hat hR hcs
      generalize D.getD k tySpace.z = d at c0 c1 c2 HE hwk HS
      go_wp2_with fail
      refine (szY_Space z hz0 (by omega) hwk.out (Ty.below_w HE.out HB.out)).mono ?_
      rintro e w1 ⟨z1, rfl, hz, hy, hb1⟩
      have HW1 := Lib.hid (HB.out.trans (hb1.mono HB.out.size))
      clear hb1 c0 c1 c2
      by_cases hp : 0 ≤ z1
      case neg =>
        clear hz
        go_wp2
        go_ret
        exact ⟨_, rfl, fun h => by omega, by omega, HW1.out⟩
      have hz2 := Lib.hid (hz hp)
      clear hz
      go_wp2_with fail
      go_roundw
      case rel =>
        refine ⟨k + 1, z1, by omega, hp, ?_, by go_num, rfl, HW1.out⟩
        have h1 := HS.out
        have h2 := hz2.out
        omega
      case measure => simp [intOf]; omega
    · obtain rfl : k = n := by omega
      rw [upN_end HL.out] at hz1
      go_wp2
      go_ret
      exact ⟨_, rfl, fun _ => by omega, by omega, HB.out⟩
set_option maxHeartbeats 1000000 in
theorem eqY_SSpace (h : tySSpace.R w hi [x0] D) (h2 : tySSpace.R w hi2 [y0] D) :
    Calls Try.prog 78 #[x0, y0] w fun e w' => e = .returned (.bool true) ∧ Below w.heap.size w w' := by
  obtain ⟨A, n, c, e, hL, hn, hr⟩ := h
  obtain ⟨B, p, d, e2, hL2, _, hr2⟩ := h2
  obtain rfl : x0 = .slice A n c := by simpa using e
  obtain rfl : y0 = .slice B p d := by simpa using e2
  obtain rfl : n = p := hL.symm.trans hL2
  have q : n ≤ 9223372036854775807 := by unfold maxLen at hn; omega
  have HR := Lib.hid hr
  have HR2 := Lib.hid hr2
  clear e e2 hr hr2 hn hL hL2
  go_enter Try.func78, Try.ntmps78
  go_wp2_with fail
  go_loopw [5] (fun i wr => ∃ k : Nat, k ≤ n ∧ i = .int .i64 k ∧ Below w.heap.size w wr) (fun i _ => n - (intOf i).toNat)
  case atStart => exact ⟨0, Nat.zero_le _, rfl, Below.refl _ _⟩
  case round =>
    obtain ⟨k, hk, rfl, hb⟩ := hrel
    have HB := Lib.hid hb
    clear hb
    by_cases hlt : k < n
    · have hk1 : (k : Int) < n := by omega
      have hk2 : (0 : Int) ≤ k := by omega
      obtain ⟨b0, o0, rfl, _, hb0, hc⟩ := HR.out (by omega)
      obtain ⟨cs, hcl, hat, hR⟩ := hc k hlt
      have HE := Lib.hid hR
      obtain ⟨A0_1, n0_1, c0_1, A0_2, n0_2, c0_2, hcs⟩ := tySpace_sh hR
      have c0 : w.cell? ⟨b0, o0 + k * 3, none⟩ = some (.bool (D.getD k tySpace.z).1) := by
        have h := hat 0 (by rw [hcl]; decide)
        rw [hcs] at h
        exact h
      have c1 : w.cell? ⟨b0, o0 + k * 3 + 1, none⟩ = some (.slice A0_1 n0_1 c0_1) := by
        have h := hat 1 (by rw [hcl]; decide)
        rw [hcs] at h
        exact h
      have c2 : w.cell? ⟨b0, o0 + k * 3 + 2, none⟩ = some (.slice A0_2 n0_2 c0_2) := by
        have h := hat 2 (by rw [hcl]; decide)
        rw [hcs] at h
        exact h
      rw [hcs] at HE
      rw [← kc HB.out _ _ hb0] at c0 c1 c2
      clear hc hcl hat hR hcs
      obtain ⟨b1, o1, rfl, _, hb2, hc⟩ := HR2.out (by omega)
      obtain ⟨cs, hcl, hat, hR⟩ := hc k hlt
      have HF := Lib.hid hR
      obtain ⟨A1_1, n1_1, c1_1, A1_2, n1_2, c1_2, hcs⟩ := tySpace_sh hR
      have d0 : w.cell? ⟨b1, o1 + k * 3, none⟩ = some (.bool (D.getD k tySpace.z).1) := by
        have h := hat 0 (by rw [hcl]; decide)
        rw [hcs] at h
        exact h
      have d1 : w.cell? ⟨b1, o1 + k * 3 + 1, none⟩ = some (.slice A1_1 n1_1 c1_1) := by
        have h := hat 1 (by rw [hcl]; decide)
        rw [hcs] at h
        exact h
      have d2 : w.cell? ⟨b1, o1 + k * 3 + 2, none⟩ = some (.slice A1_2 n1_2 c1_2) := by
        have h := hat 2 (by rw [hcl]; decide)
        rw [hcs] at h
        exact h
      rw [hcs] at HF
      rw [← kc HB.out _ _ hb2] at d0 d1 d2
      clear hc hcl hat hR hcs
      generalize D.getD k tySpace.z = d at c0 c1 c2 d0 d1 d2 HE HF
      have HD := Lib.hid HB.out.drew
      go_wp2_with fail
      go_region_held3 (fun w' => w'.cell? ⟨b0, o0 + k * 3, none⟩ = some (.bool d.1) ∧ w'.cell? ⟨b0, o0 + k * 3 + 1, none⟩ = some (.slice A0_1 n0_1 c0_1) ∧ w'.cell? ⟨b0, o0 + k * 3 + 2, none⟩ = some (.slice A0_2 n0_2 c0_2) ∧ w'.cell? ⟨b1, o1 + k * 3, none⟩ = some (.bool d.1) ∧ w'.cell? ⟨b1, o1 + k * 3 + 1, none⟩ = some (.slice A1_1 n1_1 c1_1) ∧ w'.cell? ⟨b1, o1 + k * 3 + 2, none⟩ = some (.slice A1_2 n1_2 c1_2))
        (first | exact ⟨(HKP.out _ _ hb0).trans c0, (HKP.out _ _ hb0).trans c1, (HKP.out _ _ hb0).trans c2, (HKP.out _ _ hb2).trans d0, (HKP.out _ _ hb2).trans d1, (HKP.out _ _ hb2).trans d2⟩ | exact ⟨c0, c1, c2, d0, d1, d2⟩)
        (first
          | (go_at_call 120
             refine (eqY_Space (Ty.below_w HE.out HD.out) (Ty.below_w HF.out HD.out)).mono ?_
             rintro e w1 ⟨rfl, hb1⟩
             have HW1 := Lib.hid (HD.out.trans (hb1.mono HD.out.size))
             have HKP := Lib.hid (fun (x : Nat) (i : Nat) (hx : x < w.heap.size) => hb1.cell (p := ⟨x, i, none⟩) (Nat.lt_of_lt_of_le hx HD.out.size))
             clear hb1))
      go_wp2
      go_roundw
      case rel => exact ⟨k + 1, by omega, by go_num, HW1.out⟩
      case measure => simp [intOf]; omega
    · obtain rfl : k = n := by omega
      go_wp2
      go_ret
      exact ⟨rfl, HB.out⟩
set_option maxHeartbeats 2000000 in
theorem toY_SSpace (h : tySSpace.R w hi [x0] D) (hs : totSSpace D ≤ 1048576) :
    Calls Try.prog 76 #[x0] w fun e w' => ∃ y0 fp, e = .returned (y0) ∧ tySSpace.M w' fp [y0] D ∧ (∀ b ∈ fp, w.heap.size ≤ b ∧ b < w'.heap.size) ∧ Below w.heap.size w w' := by
  obtain ⟨A, n, c, e, hL, hn, hr⟩ := h
  obtain rfl : x0 = .slice A n c := by simpa using e
  have q : n ≤ 9223372036854775807 := by unfold maxLen at hn; omega
  have HR := Lib.hid hr
  have HL := Lib.hid hL
  have hs1 : n ≤ 1048576 := by unfold totSSpace at hs; omega
  have HS := Lib.hid hs
  clear e hr hn hL hs
  have hmk : ∀ u : World, (Instr.makeSlice 27 (.int .i64 (n : Int)) (.int .i64 (n : Int))).run Try.prog u = .ok (.slice (some ⟨u.heap.size, 0, none⟩) n n) (u.alloc (.cells (madeCells #[.bool false, .slice none 0 0, .slice none 0 0] (n * 3)) 45)) := fun u => by
    obtain ⟨i0, hi, hz0, hz1, hz2⟩ := infoSpace
    have h := run_make (P := Try.prog) u 27 45 i0 _ Try.underlying27 hi hz0 .i64 .i64 (n : Int) (n : Int) (by omega) (Int.le_refl _) (by rw [hz2]; omega) (by omega)
    rw [hz1, Int.toNat_natCast] at h
    exact h
  go_enter Try.func76, Try.ntmps76
  go_wp2_with fail
  go_loopw [4] (fun i wr => ∃ (k : Nat) (fs : Nat → List Nat), k ≤ n ∧ i = .int .i64 k ∧ Grow tySpace 3 wr w.heap.size n D k fs ∧ Below w.heap.size w wr) (fun i _ => n - (intOf i).toNat)
  case atStart => exact ⟨0, fun _ => [], Nat.zero_le _, rfl, Grow.made w n _ #[.bool false, .slice none 0 0, .slice none 0 0] _, (Below.refl _ _).alloc (Nat.le_refl _) _⟩
  case round =>
    obtain ⟨k, fs, hk, rfl, hg, hb⟩ := hrel
    have HG := Lib.hid hg
    have HB := Lib.hid hb
    clear hg hb
    by_cases hlt : k < n
    · have hkd : k < D.length := by rw [HL.out]; exact hlt
      have hk1 : (k : Int) < n := by omega
      have hk2 : (0 : Int) ≤ k := by omega
      have ht : totSpace (D.getD k tySpace.z) ≤ 1048576 := by
        have h1 := le_sum (f := totSpace) (getD_mem tySpace.z hkd)
        have h2 := HS.out
        unfold totSSpace at h2
        omega
      obtain ⟨b0, o0, rfl, _, hb0, hc⟩ := HR.out (by omega)
      obtain ⟨cs, hcl, hat, hR⟩ := hc k hlt
      have HE := Lib.hid hR
      obtain ⟨A0_1, n0_1, c0_1, A0_2, n0_2, c0_2, hcs⟩ := tySpace_sh hR
      have c0 : w.cell? ⟨b0, o0 + k * 3, none⟩ = some (.bool (D.getD k tySpace.z).1) := by
        have h := hat 0 (by rw [hcl]; decide)
        rw [hcs] at h
        exact h
      have c1 : w.cell? ⟨b0, o0 + k * 3 + 1, none⟩ = some (.slice A0_1 n0_1 c0_1) := by
        have h := hat 1 (by rw [hcl]; decide)
        rw [hcs] at h
        exact h
      have c2 : w.cell? ⟨b0, o0 + k * 3 + 2, none⟩ = some (.slice A0_2 n0_2 c0_2) := by
        have h := hat 2 (by rw [hcl]; decide)
        rw [hcs] at h
        exact h
      rw [hcs] at HE
      rw [← kc HB.out _ _ hb0] at c0 c1 c2
      clear hc hcl hat hR hcs
      have HST := Lib.hid (fun w1 fp ys h1 h2 h3 h4 => HG.out.step (w1 := w1) (fp := fp) (ys := ys) hlt h1 h2 h3 h4)
      generalize D.getD k tySpace.z = d at c0 c1 c2 HE ht HST
      go_wp2_with fail
      refine (toY_Space (Ty.below_w HE.out HB.out) ht).mono ?_
      rintro e w1 ⟨x0, x1, x2, fp, rfl, hm, hfp, hb1⟩
      obtain ⟨Ay_1, ny_1, cy_1, Ay_2, ny_2, cy_2, hsh⟩ := tySpace_shM hm
      simp only [List.cons.injEq, and_true] at hsh
      obtain ⟨rfl, rfl, rfl⟩ := hsh
      have HM := Lib.hid hm
      have HFP := Lib.hid hfp
      have HB1 := Lib.hid hb1
      have HW1 := Lib.hid (HB.out.trans (hb1.mono HB.out.size))
      have hg0 : w.heap.size ≤ w.heap.size := Nat.le_refl _
      have hgT : w.heap.size < w1.heap.size := Nat.lt_of_lt_of_le HG.out.lt hb1.size
      have f0 : w1.frozen? ⟨w.heap.size, k * 3, none⟩ = false := (hb1.frozen (p := ⟨w.heap.size, k * 3, none⟩) HG.out.lt).trans (HG.out.frz _)
      have f1 : w1.frozen? ⟨w.heap.size, k * 3 + 1, none⟩ = false := (hb1.frozen (p := ⟨w.heap.size, k * 3 + 1, none⟩) HG.out.lt).trans (HG.out.frz _)
      have f2 : w1.frozen? ⟨w.heap.size, k * 3 + 2, none⟩ = false := (hb1.frozen (p := ⟨w.heap.size, k * 3 + 2, none⟩) HG.out.lt).trans (HG.out.frz _)
      have hmul : (k + 1) * 3 ≤ n * 3 := Nat.mul_le_mul_right 3 hlt
      obtain ⟨v0, t0⟩ : ∃ v, w1.cell? ⟨w.heap.size, k * 3, none⟩ = some v := by
        obtain ⟨v, hv⟩ := HG.out.rest (k * 3) (by omega)
        exact ⟨v, (hb1.cell (p := ⟨w.heap.size, k * 3, none⟩) HG.out.lt).trans hv⟩
      obtain ⟨v1, t1⟩ : ∃ v, w1.cell? ⟨w.heap.size, k * 3 + 1, none⟩ = some v := by
        obtain ⟨v, hv⟩ := HG.out.rest (k * 3 + 1) (by omega)
        exact ⟨v, (hb1.cell (p := ⟨w.heap.size, k * 3 + 1, none⟩) HG.out.lt).trans hv⟩
      obtain ⟨v2, t2⟩ : ∃ v, w1.cell? ⟨w.heap.size, k * 3 + 2, none⟩ = some v := by
        obtain ⟨v, hv⟩ := HG.out.rest (k * 3 + 2) (by omega)
        exact ⟨v, (hb1.cell (p := ⟨w.heap.size, k * 3 + 2, none⟩) HG.out.lt).trans hv⟩
      clear hm hfp hb1 hmul c0 c1 c2
      go_wp2
      go_roundw
      case rel => exact ⟨k + 1, _, by omega, by go_num, HST.out w1 fp [.bool d.1, .slice Ay_1 ny_1 cy_1, .slice Ay_2 ny_2 cy_2] HB1.out HM.out HFP.out rfl, (((HW1.out.setCell hg0 _).setCell hg0 _).setCell hg0 _)⟩
      case measure => simp [intOf]; omega
    · obtain rfl : k = n := by omega
      go_wp2
      go_ret
      obtain ⟨fp, h1, h2⟩ := HG.out.done (Nat.le_refl w.heap.size)
      exact ⟨_, fp, rfl, ⟨_, _, _, rfl, HL.out, hs1, h1⟩, h2, HB.out⟩
set_option maxHeartbeats 2000000 in
theorem markY_SSpace (k : Int) (h0 : 0 < k) (h1 : k + 8 * totSSpace D ≤ 8388609) (hm : tySSpace.M w fp [x0] D) (hf : ∀ b ∈ fp, b < w.heap.size) :
    Calls Try.prog 83 #[x0, .int .i64 k] w fun e w' => e = .returned (.int .i64 (k + cntSSpace D)) ∧ tySSpace.M w' fp [x0] (mksSSpace k D) ∧ Foot w w' fp := by
  obtain ⟨A, n, c, e, hL, hn, hr⟩ := hm
  obtain rfl : x0 = .slice A n c := by simpa using e
  have HL := Lib.hid hL
  have HN := Lib.hid hn
  unfold cntSSpace mksSSpace
  have HT1 := Lib.hid h1
  unfold totSSpace at h1
  rw [hL] at h1
  clear e hL
  by_cases hz : 0 < n
  case neg =>
    obtain rfl : n = 0 := by omega
    have hD : D = [] := List.eq_nil_of_length_eq_zero HL.out
    subst hD
    clear hr HL h1 hn
    go_enter Try.func83, Try.ntmps83
    go_wp2_with fail
    go_loop [1, 5] (fun x i => x = .int .i64 k ∧ i = .int .i64 0) (fun _ _ => 0)
    case atStart => exact ⟨rfl, rfl⟩
    case round =>
      obtain ⟨rfl, rfl⟩ := hrel
      go_wp2
      go_ret
      exact ⟨ret_int (by simp), ⟨_, _, _, rfl, rfl, HN.out, fun h => absurd h (Nat.lt_irrefl 0)⟩, Foot.refl _ _⟩
  obtain ⟨b, o, fs, rfl, ho⟩ := hr.own hz
  have HO := Lib.hid ho
  have HF := Lib.hid hf
  clear hr ho hf hn hz
  go_enter Try.func83, Try.ntmps83
  go_wp2_with fail
  go_loopw [1, 5] (fun x i wr => ∃ q : Nat, q ≤ n ∧ i = .int .i64 q ∧ x = .int .i64 (k + upZ cntESpace D q) ∧ OwnN tySpace 3 wr fp b o n (mkLto mksESpace cntESpace k D q) fs ∧ Foot w wr fp) (fun _ i _ => n - (intOf i).toNat)
  case atStart => exact ⟨0, Nat.zero_le _, rfl, by rw [upZ_zero]; go_num, by rw [mkLto_zero]; exact HO.out, Foot.refl _ _⟩
  case round =>
    obtain ⟨q, hq, rfl, rfl, hr, ht⟩ := hrel
    have HR := Lib.hid hr
    have HT := Lib.hid ht
    clear hr ht
    by_cases hlt : q < n
    · have hqd : q < D.length := by rw [HL.out]; exact hlt
      have hk1 : (q : Int) < n := by omega
      have hk2 : (0 : Int) ≤ q := by omega
      obtain ⟨cs, hcl, hat, hM⟩ := HR.out.elt q hlt
      rw [mkLto_at tySpace.z hqd] at hM
      have HST := Lib.hid (upZ_step tySpace.z (f := cntESpace) hqd)
      have HX := Lib.hid (mkLto_step tySpace.z (mk := mksESpace) (c := cntESpace) (k := k) hqd)
      have hce := cntESpace_le (D.getD q tySpace.z)
      have hup : 0 ≤ upZ cntESpace D q ∧ upZ cntESpace D q + 8 + 8 * (totSpace (D.getD q tySpace.z) : Int) ≤ 8 * (totSSpace D : Int) := by
        have h1 := sum_bounds cntESpace_le (D.take q)
        have h2 := upN_step tySpace.z (f := totSpace) hqd
        have h3 := upN_le (f := totSpace) (l := D) (k := q + 1)
        have h4 : (D.take q).length = q := by rw [List.length_take]; omega
        unfold upZ
        unfold upN at h2 h3
        unfold totSSpace
        rw [h4] at h1
        rw [HL.out]
        omega
      have hkt := HT1.out
      generalize D.getD q tySpace.z = d at hM HX HST hce hup
      obtain ⟨Ae_1, ne_1, ce_1, Ae_2, ne_2, ce_2, hcs⟩ := tySpace_shM hM
      rw [hcs] at hM hat hcl
      obtain ⟨f1, f2, hfs, _, m1, m2, d1_2⟩ := tySpace_M hM
      have c0 : wr.cell? ⟨b, o + q * 3, none⟩ = some (.bool d.1) := hat 0 (by rw [hcl]; decide)
      have f_0 : wr.frozen? ⟨b, o + q * 3, none⟩ = false := HR.out.frz _
      have c1 : wr.cell? ⟨b, o + q * 3 + 1, none⟩ = some (.slice Ae_1 ne_1 ce_1) := hat 1 (by rw [hcl]; decide)
      have f_1 : wr.frozen? ⟨b, o + q * 3 + 1, none⟩ = false := HR.out.frz _
      have c2 : wr.cell? ⟨b, o + q * 3 + 2, none⟩ = some (.slice Ae_2 ne_2 ce_2) := hat 2 (by rw [hcl]; decide)
      have f_2 : wr.frozen? ⟨b, o + q * 3 + 2, none⟩ = false := HR.out.frz _
      have hbl := HR.out.lt
      have HFS := Lib.hid hfs
      have HM1 := Lib.hid m1
      have hF1 : ∀ y ∈ f1, y ≠ b ∧ y < wr.heap.size := fun y hy => (HR.out.sub q hlt y (by rw [hfs]; exact (List.mem_append_right _ (List.mem_append_left _ hy)))).2
      have HF1 := Lib.hid hF1
      have HM2 := Lib.hid m2
      have hF2 : ∀ y ∈ f2, y ≠ b ∧ y < wr.heap.size := fun y hy => (HR.out.sub q hlt y (by rw [hfs]; exact (List.mem_append_right _ (List.mem_append_right _ hy)))).2
      have HF2 := Lib.hid hF2
      have HD1_2 := Lib.hid d1_2
      clear hat hcl hM hcs hfs m1 hF1 m2 hF2 d1_2
      obtain ⟨KK, hK⟩ : ∃ KK : Int, k + upZ cntESpace D q = KK := ⟨_, rfl⟩
      have hKb : 0 < KK ∧ KK + 8 + 8 * (totSpace d : Int) ≤ 8388609 := by omega
      rw [hK] at HX
      rw [hK]
      have HK := Lib.hid hK
      clear hK hup hkt
      unfold totSpace at hKb hce
      have n1 := cntSArea_le d.2.1
      have n2 := cntSSlot_le d.2.2
      have BK0 := Lib.hid (Blk.refl b (o + q * 3) 3 wr)
      have FT0 := Lib.hid (Foot.refl wr (b :: fs q))
      go_wp2_with fail
      have BP0 := Lib.hid (BK0.out.set (o + q * 3) (by omega) (.bool ((KK) % 3 == 0)))
      have FP0 := Lib.hid (FT0.out.set (b := b) List.mem_cons_self (o + q * 3) (.bool ((KK) % 3 == 0)))
      have hbp0 : b < (wr.setCell ⟨b, o + q * 3, none⟩ (.bool ((KK) % 3 == 0))).heap.size := by simpa using hbl
      have p0_0 : (wr.setCell ⟨b, o + q * 3, none⟩ (.bool ((KK) % 3 == 0))).cell? ⟨b, o + q * 3, none⟩ = some (.bool ((KK) % 3 == 0)) := (World.cell?_setCell_same _ ⟨b, o + q * 3, none⟩ (.bool ((KK) % 3 == 0)) c0)
      have p0_1 : (wr.setCell ⟨b, o + q * 3, none⟩ (.bool ((KK) % 3 == 0))).cell? ⟨b, o + q * 3 + 1, none⟩ = some (.slice Ae_1 ne_1 ce_1) := ((World.cell?_setCell_other _ ⟨b, o + q * 3, none⟩ ⟨b, o + q * 3 + 1, none⟩ (.bool ((KK) % 3 == 0)) (fun e => by injection e with _ e2; omega)).trans c1)
      have p0_2 : (wr.setCell ⟨b, o + q * 3, none⟩ (.bool ((KK) % 3 == 0))).cell? ⟨b, o + q * 3 + 2, none⟩ = some (.slice Ae_2 ne_2 ce_2) := ((World.cell?_setCell_other _ ⟨b, o + q * 3, none⟩ ⟨b, o + q * 3 + 2, none⟩ (.bool ((KK) % 3 == 0)) (fun e => by injection e with _ e2; omega)).trans c2)
      have MP0_1 := Lib.hid (tySArea.mframe HM1.out fun y hy => (heap_setCell_other _ ⟨b, o + q * 3, none⟩ y (.bool ((KK) % 3 == 0)) (HF1.out y hy).1).trans (rfl))
      have MP0_2 := Lib.hid (tySSlot.mframe HM2.out fun y hy => (heap_setCell_other _ ⟨b, o + q * 3, none⟩ y (.bool ((KK) % 3 == 0)) (HF2.out y hy).1).trans (rfl))
      refine (markY_SArea (KK + 1) (by omega) (by omega) MP0_1.out (fun y hy => Nat.lt_of_lt_of_le (HF1.out y hy).2 FP0.out.size)).mono ?_
      rintro e w1 ⟨rfl, hm0, ht0⟩
      have hbb0 := ht0.block b hbp0 (fun h => (HF1.out b h).1 rfl)
      replace c0 := (cell_of_block hbb0 (o + q * 3)).trans p0_0
      replace f_0 : w1.frozen? ⟨b, o + q * 3, none⟩ = false := (frozen_of_block hbb0 (o + q * 3)).trans (by simpa using f_0)
      replace c1 := (cell_of_block hbb0 (o + q * 3 + 1)).trans p0_1
      replace f_1 : w1.frozen? ⟨b, o + q * 3 + 1, none⟩ = false := (frozen_of_block hbb0 (o + q * 3 + 1)).trans (by simpa using f_1)
      replace c2 := (cell_of_block hbb0 (o + q * 3 + 2)).trans p0_2
      replace f_2 : w1.frozen? ⟨b, o + q * 3 + 2, none⟩ = false := (frozen_of_block hbb0 (o + q * 3 + 2)).trans (by simpa using f_2)
      have BK1 := Lib.hid (BP0.out.same hbb0)
      have FT1 := Lib.hid (FP0.out.trans (ht0.sub fun y hy => List.mem_cons_of_mem _ (by rw [HFS.out]; exact (List.mem_append_right _ (List.mem_append_left _ hy)))))
      have hbl1 := Nat.lt_of_lt_of_le hbp0 ht0.size
      have MC0_1 := Lib.hid hm0
      have MC0_2 := Lib.hid (tySSlot.mframe MP0_2.out fun y hy => ht0.block y ((fun y hy => Nat.lt_of_lt_of_le (HF2.out y hy).2 FP0.out.size) y hy) (fun h => HD1_2.out y h hy))
      clear hm0 ht0 hbb0 hbp0 p0_0 p0_1 p0_2
      go_wp2_with fail
      have BP1 := Lib.hid BK1.out
      have FP1 := Lib.hid FT1.out
      have hbp1 : b < w1.heap.size := by simpa using hbl1
      have p1_0 : w1.cell? ⟨b, o + q * 3, none⟩ = some (.bool ((KK) % 3 == 0)) := c0
      have p1_1 : w1.cell? ⟨b, o + q * 3 + 1, none⟩ = some (.slice Ae_1 ne_1 ce_1) := c1
      have p1_2 : w1.cell? ⟨b, o + q * 3 + 2, none⟩ = some (.slice Ae_2 ne_2 ce_2) := c2
      have MP1_1 := Lib.hid (tySArea.mframe MC0_1.out fun y hy => rfl)
      have MP1_2 := Lib.hid (tySSlot.mframe MC0_2.out fun y hy => rfl)
      refine (markY_SSlot (KK + 1 + cntSArea d.2.1) (by omega) (by omega) MP1_2.out (fun y hy => Nat.lt_of_lt_of_le (HF2.out y hy).2 FP1.out.size)).mono ?_
      rintro e w2 ⟨rfl, hm1, ht1⟩
      have hbb1 := ht1.block b hbp1 (fun h => (HF2.out b h).1 rfl)
      replace c0 := (cell_of_block hbb1 (o + q * 3)).trans p1_0
      replace f_0 : w2.frozen? ⟨b, o + q * 3, none⟩ = false := (frozen_of_block hbb1 (o + q * 3)).trans (by simpa using f_0)
      replace c1 := (cell_of_block hbb1 (o + q * 3 + 1)).trans p1_1
      replace f_1 : w2.frozen? ⟨b, o + q * 3 + 1, none⟩ = false := (frozen_of_block hbb1 (o + q * 3 + 1)).trans (by simpa using f_1)
      replace c2 := (cell_of_block hbb1 (o + q * 3 + 2)).trans p1_2
      replace f_2 : w2.frozen? ⟨b, o + q * 3 + 2, none⟩ = false := (frozen_of_block hbb1 (o + q * 3 + 2)).trans (by simpa using f_2)
      have BK2 := Lib.hid (BP1.out.same hbb1)
      have FT2 := Lib.hid (FP1.out.trans (ht1.sub fun y hy => List.mem_cons_of_mem _ (by rw [HFS.out]; exact (List.mem_append_right _ (List.mem_append_right _ hy)))))
      have hbl2 := Nat.lt_of_lt_of_le hbp1 ht1.size
      have MC1_1 := Lib.hid (tySArea.mframe MP1_1.out fun y hy => ht1.block y ((fun y hy => Nat.lt_of_lt_of_le (HF1.out y hy).2 FP1.out.size) y hy) (fun h => HD1_2.out y hy h))
      have MC1_2 := Lib.hid hm1
      clear hm1 ht1 hbb1 hbp1 p1_0 p1_1 p1_2
      go_wp2
      go_roundw
      case rel =>
        have hfin := tySpace_Mmk (D := mksESpace KK d) (tySArea.mframe MC1_1.out fun y hy => rfl) (tySSlot.mframe MC1_2.out fun y hy => rfl) HD1_2.out
        rw [← HFS.out] at hfin
        have hst := HR.out.step (q := q) (mkLto_len HL.out) hlt FT2.out BK2.out rfl (fun r hr => ?hat) hfin
        case hat =>
          match r, hr with
          | 0, _ => exact c0
          | 1, _ => exact c1
          | 2, _ => exact c2
          | r + 3, h => exact absurd h (by simp)
        rw [HX.out] at hst
        have hk' := HK.out
        have hs' := HST.out
        rw [cntESpace.eq_1] at hs'
        exact ⟨q + 1, by omega, by go_num, congrArg (Value.int .i64) (by omega), hst, HT.out.trans (FT2.out.sub fun y hy => (List.mem_cons.1 hy).elim (fun h => by rw [h]; exact HR.out.mem) (fun h => (HR.out.sub q hlt y h).1))⟩
      case measure => simp [intOf]; omega
    · obtain rfl : q = n := by omega
      go_wp2
      go_ret
      have hrr := HR.out
      rw [mkLto_end HL.out] at hrr
      exact ⟨by rw [upZ_end HL.out]; rfl, ⟨_, _, _, rfl, by rw [mkL_len]; exact HL.out, HN.out, hrr.row⟩, HT.out⟩
set_option maxHeartbeats 2000000 in
theorem heldY_SSpace (k : Int) (h0 : 0 < k) (h1 : k + 8 * totSSpace D ≤ 8388609) (h : tySSpace.R w hi [x0] (mksSSpace k D)) :
    Calls Try.prog 85 #[x0, .int .i64 k] w fun e w' => e = .returned (.int .i64 (k + cntSSpace D)) ∧ Below w.heap.size w w' := by
  obtain ⟨A, n, c, e, hL, hn, hr⟩ := h
  obtain rfl : x0 = .slice A n c := by simpa using e
  rw [show (mksSSpace k D).length = D.length from mkL_len k D] at hL
  have HL := Lib.hid hL
  have HR := Lib.hid hr
  have HT1 := Lib.hid h1
  unfold cntSSpace
  unfold totSSpace at h1
  rw [hL] at h1
  clear e hL hr
  go_enter Try.func85, Try.ntmps85
  go_wp2_with fail
  go_loopw [1, 5] (fun x i wr => ∃ q : Nat, q ≤ n ∧ i = .int .i64 q ∧ x = .int .i64 (k + upZ cntESpace D q) ∧ Below w.heap.size w wr) (fun _ i _ => n - (intOf i).toNat)
  case atStart => exact ⟨0, Nat.zero_le _, rfl, by rw [upZ_zero]; go_num, Below.refl _ _⟩
  case round =>
    obtain ⟨q, hq, rfl, rfl, hb⟩ := hrel
    have HB0 := Lib.hid hb
    clear hb
    by_cases hlt : q < n
    · have hqd : q < D.length := by rw [HL.out]; exact hlt
      have hk1 : (q : Int) < n := by omega
      have hk2 : (0 : Int) ≤ q := by omega
      obtain ⟨b, o, rfl, _, hb0, hc⟩ := HR.out (by omega)
      obtain ⟨cs, hcl, hat, hR⟩ := hc q hlt
      rw [show (mksSSpace k D).getD q tySpace.z = _ from mkL_at tySpace.z k D q hqd] at hR
      have HST := Lib.hid (upZ_step tySpace.z (f := cntESpace) hqd)
      have hce := cntESpace_le (D.getD q tySpace.z)
      have hup : 0 ≤ upZ cntESpace D q ∧ upZ cntESpace D q + 8 + 8 * (totSpace (D.getD q tySpace.z) : Int) ≤ 8 * (totSSpace D : Int) := by
        have h1 := sum_bounds cntESpace_le (D.take q)
        have h2 := upN_step tySpace.z (f := totSpace) hqd
        have h3 := upN_le (f := totSpace) (l := D) (k := q + 1)
        have h4 : (D.take q).length = q := by rw [List.length_take]; omega
        unfold upZ
        unfold upN at h2 h3
        unfold totSSpace
        rw [h4] at h1
        rw [HL.out]
        omega
      have hkt := HT1.out
      generalize D.getD q tySpace.z = d at hR HST hce hup
      obtain ⟨KK, hK⟩ : ∃ KK : Int, k + upZ cntESpace D q = KK := ⟨_, rfl⟩
      have hKb : 0 < KK ∧ KK + 8 + 8 * (totSpace d : Int) ≤ 8388609 := by omega
      rw [hK] at hR
      rw [hK]
      have HK := Lib.hid hK
      clear hK hup hkt
      unfold totSpace at hKb hce
      have n1 := cntSArea_le d.2.1
      have n2 := cntSSlot_le d.2.2
      obtain ⟨Ae_1, ne_1, ce_1, Ae_2, ne_2, ce_2, hcs⟩ := tySpace_sh hR
      rw [hcs] at hR hat hcl
      obtain ⟨_, r1, r2⟩ := tySpace_R hR
      have c0 : w.cell? ⟨b, o + q * 3, none⟩ = some (.bool ((KK) % 3 == 0)) := hat 0 (by rw [hcl]; decide)
      have c1 : w.cell? ⟨b, o + q * 3 + 1, none⟩ = some (.slice Ae_1 ne_1 ce_1) := hat 1 (by rw [hcl]; decide)
      have c2 : w.cell? ⟨b, o + q * 3 + 2, none⟩ = some (.slice Ae_2 ne_2 ce_2) := hat 2 (by rw [hcl]; decide)
      rw [← kc HB0.out _ _ hb0] at c0 c1 c2
      have HR1 := Lib.hid r1
      have HR2 := Lib.hid r2
      clear hc hat hcl hR hcs r1 r2
      go_wp2_with fail
      refine (heldY_SArea (D := d.2.1) (KK + 1) (by omega) (by omega) (Ty.below_w HR1.out HB0.out)).mono ?_
      rintro e w1 ⟨rfl, hb1⟩
      have HB1 := Lib.hid (HB0.out.trans (hb1.mono HB0.out.size))
      replace c0 := (hb1.cell (p := ⟨b, o + q * 3, none⟩) (Nat.lt_of_lt_of_le hb0 HB0.out.size)).trans c0
      replace c1 := (hb1.cell (p := ⟨b, o + q * 3 + 1, none⟩) (Nat.lt_of_lt_of_le hb0 HB0.out.size)).trans c1
      replace c2 := (hb1.cell (p := ⟨b, o + q * 3 + 2, none⟩) (Nat.lt_of_lt_of_le hb0 HB0.out.size)).trans c2
      clear hb1
      go_wp2_with fail
      refine (heldY_SSlot (D := d.2.2) (KK + 1 + cntSArea d.2.1) (by omega) (by omega) (Ty.below_w HR2.out HB1.out)).mono ?_
      rintro e w2 ⟨rfl, hb2⟩
      have HB2 := Lib.hid (HB1.out.trans (hb2.mono HB1.out.size))
      replace c0 := (hb2.cell (p := ⟨b, o + q * 3, none⟩) (Nat.lt_of_lt_of_le hb0 HB1.out.size)).trans c0
      replace c1 := (hb2.cell (p := ⟨b, o + q * 3 + 1, none⟩) (Nat.lt_of_lt_of_le hb0 HB1.out.size)).trans c1
      replace c2 := (hb2.cell (p := ⟨b, o + q * 3 + 2, none⟩) (Nat.lt_of_lt_of_le hb0 HB1.out.size)).trans c2
      clear hb2
      go_wp2
      go_roundw
      case rel =>
        have hk' := HK.out
        have hs' := HST.out
        rw [cntESpace.eq_1] at hs'
        exact ⟨q + 1, by omega, by go_num, congrArg (Value.int .i64) (by omega), HB2.out⟩
      case measure => simp [intOf]; omega
    · obtain rfl : q = n := by omega
      go_wp2
      go_ret
      exact ⟨by rw [upZ_end HL.out]; rfl, HB0.out⟩
end
end Go.Proofs.Ytfmbadhiflaldaa
