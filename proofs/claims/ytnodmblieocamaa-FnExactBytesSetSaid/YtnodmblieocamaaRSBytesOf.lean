/-
  The laws' helpers on a slice of BytesOf.
-/
import Derived.Test.YtnodmblieocamaaRBytesOf
namespace Go.Proofs.Ytnodmblieocamaa
open Go.RowKit

theorem infoBytesOf : ∃ i, Try.prog.info? 44 = some i ∧ i.zero = some (.agg #[.bool false, .slice none 0 0, .slice none 0 0, .slice none 0 0]) ∧ i.size = 4 ∧ i.bytes = 80 := info_parts (by kernel_rfl : (Try.prog.info? 44).map (fun i => (i.zero, i.size, i.bytes)) = some (some (.agg #[.bool false, .slice none 0 0, .slice none 0 0, .slice none 0 0]), 4, 80))

def tySBytesOf : Ty (List (Bool × List EArea × List Int × List ByteArray)) := tyN tyBytesOf 4
def totSBytesOf (D : List (Bool × List EArea × List Int × List ByteArray)) : Nat := D.length + (D.map totBytesOf).sum
def wfSBytesOf (D : List (Bool × List EArea × List Int × List ByteArray)) : Prop := ∀ d ∈ D, wfBytesOf d
/-- the marks of one element -/
def cntEBytesOf (D : Bool × List EArea × List Int × List ByteArray) : Int := 1 + cntSArea D.2.1 + cntSInt D.2.2.1 + cntSString D.2.2.2
def mksEBytesOf (k : Int) (D : Bool × List EArea × List Int × List ByteArray) : Bool × List EArea × List Int × List ByteArray := (((k) % 3 == 0), mksSArea (k + 1) D.2.1, mksSInt (k + 1 + cntSArea D.2.1) D.2.2.1, mksSString (k + 1 + cntSArea D.2.1 + cntSInt D.2.2.1) D.2.2.2)
def cntSBytesOf (D : List (Bool × List EArea × List Int × List ByteArray)) : Int := (D.map cntEBytesOf).sum
def mksSBytesOf (k : Int) (D : List (Bool × List EArea × List Int × List ByteArray)) : List (Bool × List EArea × List Int × List ByteArray) := mkL mksEBytesOf cntEBytesOf k D
theorem cntEBytesOf_le (D : Bool × List EArea × List Int × List ByteArray) : 0 ≤ cntEBytesOf D ∧ cntEBytesOf D ≤ 8 + 8 * (totBytesOf D : Int) := by
  have h1 := cntSArea_le D.2.1
  have h2 := cntSInt_le D.2.2.1
  have h3 := cntSString_le D.2.2.2
  unfold cntEBytesOf totBytesOf
  omega
theorem cntSBytesOf_le (D : List (Bool × List EArea × List Int × List ByteArray)) : 0 ≤ cntSBytesOf D ∧ cntSBytesOf D ≤ 8 * (totSBytesOf D : Int) := sum_bounds cntEBytesOf_le D
theorem totEBytesOf_mk (k : Int) (D : Bool × List EArea × List Int × List ByteArray) : totBytesOf (mksEBytesOf k D) = totBytesOf D := by simp only [totBytesOf, mksEBytesOf, totSArea_mk, totSInt_mk, totSString_mk]
theorem cntEBytesOf_mk (k : Int) (D : Bool × List EArea × List Int × List ByteArray) : cntEBytesOf (mksEBytesOf k D) = cntEBytesOf D := by simp only [cntEBytesOf, mksEBytesOf, cntSArea_mk, cntSInt_mk, cntSString_mk]
theorem totSBytesOf_mk (k : Int) (D : List (Bool × List EArea × List Int × List ByteArray)) : totSBytesOf (mksSBytesOf k D) = totSBytesOf D := by unfold totSBytesOf mksSBytesOf; rw [mkL_len, mkL_sumN totEBytesOf_mk]
theorem cntSBytesOf_mk (k : Int) (D : List (Bool × List EArea × List Int × List ByteArray)) : cntSBytesOf (mksSBytesOf k D) = cntSBytesOf D := mkL_sum cntEBytesOf_mk k D
theorem tySBytesOf_sh {w : World} {hi : Nat} {cs : List Value} {D : List (Bool × List EArea × List Int × List ByteArray)} (h : tySBytesOf.R w hi cs D) : ∃ (A : Option Addr) (n c : Nat), cs = [.slice A n c] := by
  obtain ⟨A, n, c, rfl, _⟩ := h
  exact ⟨A, n, c, rfl⟩
theorem tySBytesOf_shM {w : World} {fp : List Nat} {cs : List Value} {D : List (Bool × List EArea × List Int × List ByteArray)} (h : tySBytesOf.M w fp cs D) : ∃ (A : Option Addr) (n c : Nat), cs = [.slice A n c] := by
  obtain ⟨A, n, c, rfl, _⟩ := h
  exact ⟨A, n, c, rfl⟩
section
variable {w : World} {hi hi2 : Nat} {D : List (Bool × List EArea × List Int × List ByteArray)} {fp : List Nat} {x0 y0 : Value}
theorem szY_SBytesOf (left : Int) (hl : 0 ≤ left) (hl2 : left ≤ 1048576) (hw : wfSBytesOf D) (h : tySBytesOf.R w hi [x0] D) :
    Calls Try.prog 11 #[x0, .int .i64 left] w fun e w' => ∃ z : Int, e = .returned (.int .i64 z) ∧ (0 ≤ z → (totSBytesOf D : Int) + z ≤ left) ∧ -1 ≤ z ∧ Below w.heap.size w w' := by
  obtain ⟨A, n, c, e, hL, hn, hr⟩ := h
  obtain rfl : x0 = .slice A n c := by simpa using e
  have q : n ≤ 9223372036854775807 := by unfold maxLen at hn; omega
  have HR := Lib.hid hr
  have HL := Lib.hid hL
  have HW := Lib.hid hw
  unfold totSBytesOf
  rw [hL]
  clear e hr hn hw hL
  by_cases hle : (n : Int) ≤ left
  case neg =>
    go_enter Try.func11, Try.ntmps11
    go_wp2
    go_ret
    exact ⟨_, rfl, fun h => by omega, by omega, Below.refl _ _⟩
  go_enter Try.func11, Try.ntmps11
  go_wp2_with fail
  go_loopw [1, 5] (fun l i wr => ∃ (k : Nat) (z : Int), k ≤ n ∧ 0 ≤ z ∧ (n : Int) + (upN totBytesOf D k : Int) + z ≤ left ∧ i = .int .i64 k ∧ l = .int .i64 z ∧ Below w.heap.size w wr) (fun _ i _ => n - (intOf i).toNat)
  case atStart => exact ⟨0, _, Nat.zero_le _, by omega, by rw [upN_zero]; omega, rfl, rfl, Below.refl _ _⟩
  case round =>
    obtain ⟨k, z, hk, hz0, hz1, rfl, rfl, hb⟩ := hrel
    have HB := Lib.hid hb
    clear hb
    by_cases hlt : k < n
    · have hkd : k < D.length := by rw [HL.out]; exact hlt
      have hwk := Lib.hid (HW.out _ (getD_mem tyBytesOf.z hkd))
      have HS := Lib.hid (upN_step tyBytesOf.z (f := totBytesOf) hkd)
      have hk1 : (k : Int) < n := by omega
      have hk2 : (0 : Int) ≤ k := by omega
      obtain ⟨b0, o0, rfl, _, hb0, hc⟩ := HR.out (by omega)
      obtain ⟨cs, hcl, hat, hR⟩ := hc k hlt
      have HE := Lib.hid hR
      obtain ⟨A0_1, n0_1, c0_1, A0_2, n0_2, c0_2, A0_3, n0_3, c0_3, hcs⟩ := tyBytesOf_sh hR
      have c0 : w.cell? ⟨b0, o0 + k * 4, none⟩ = some (.bool (D.getD k tyBytesOf.z).1) := by
        have h := hat 0 (by rw [hcl]; decide)
        rw [hcs] at h
        exact h
      have c1 : w.cell? ⟨b0, o0 + k * 4 + 1, none⟩ = some (.slice A0_1 n0_1 c0_1) := by
        have h := hat 1 (by rw [hcl]; decide)
        rw [hcs] at h
        exact h
      have c2 : w.cell? ⟨b0, o0 + k * 4 + 2, none⟩ = some (.slice A0_2 n0_2 c0_2) := by
        have h := hat 2 (by rw [hcl]; decide)
        rw [hcs] at h
        exact h
      have c3 : w.cell? ⟨b0, o0 + k * 4 + 3, none⟩ = some (.slice A0_3 n0_3 c0_3) := by
        have h := hat 3 (by rw [hcl]; decide)
        rw [hcs] at h
        exact h
      rw [hcs] at HE
      rw [← kc HB.out _ _ hb0] at c0 c1 c2 c3
      clear hc hcl hat hR hcs
      generalize D.getD k tyBytesOf.z = d at c0 c1 c2 c3 HE hwk HS
      go_wp2_with fail
      refine (szY_BytesOf z hz0 (by omega) hwk.out (Ty.below_w HE.out HB.out)).mono ?_
      rintro e w1 ⟨z1, rfl, hz, hy, hb1⟩
      have HW1 := Lib.hid (HB.out.trans (hb1.mono HB.out.size))
      clear hb1 c0 c1 c2 c3
      by_cases hp : 0 ≤ z1
      case neg =>
        clear hz
        go_wp2
        go_ret
        exact ⟨_, rfl, fun h => by omega, by omega, HW1.out⟩
      have hz2 := Lib.hid (hz hp)
      clear hz
      go_wp2_with fail
      go_roundw
      case rel =>
        refine ⟨k + 1, z1, by omega, hp, ?_, by go_num, rfl, HW1.out⟩
        have h1 := HS.out
        have h2 := hz2.out
        omega
      case measure => simp [intOf]; omega
    · obtain rfl : k = n := by omega
      rw [upN_end HL.out] at hz1
      go_wp2
      go_ret
      exact ⟨_, rfl, fun _ => by omega, by omega, HB.out⟩
set_option maxHeartbeats 1000000 in
theorem eqY_SBytesOf (h : tySBytesOf.R w hi [x0] D) (h2 : tySBytesOf.R w hi2 [y0] D) :
    Calls Try.prog 25 #[x0, y0] w fun e w' => e = .returned (.bool true) ∧ Below w.heap.size w w' := by
  obtain ⟨A, n, c, e, hL, hn, hr⟩ := h
  obtain ⟨B, p, d, e2, hL2, _, hr2⟩ := h2
  obtain rfl : x0 = .slice A n c := by simpa using e
  obtain rfl : y0 = .slice B p d := by simpa using e2
  obtain rfl : n = p := hL.symm.trans hL2
  have q : n ≤ 9223372036854775807 := by unfold maxLen at hn; omega
  have HR := Lib.hid hr
  have HR2 := Lib.hid hr2
  clear e e2 hr hr2 hn hL hL2
  go_enter Try.func25, Try.ntmps25
  go_wp2_with fail
  go_loopw [5] (fun i wr => ∃ k : Nat, k ≤ n ∧ i = .int .i64 k ∧ Below w.heap.size w wr) (fun i _ => n - (intOf i).toNat)
  case atStart => exact ⟨0, Nat.zero_le _, rfl, Below.refl _ _⟩
  case round =>
    obtain ⟨k, hk, rfl, hb⟩ := hrel
    have HB := Lib.hid hb
    clear hb
    by_cases hlt : k < n
    · have hk1 : (k : Int) < n := by omega
      have hk2 : (0 : Int) ≤ k := by omega
      obtain ⟨b0, o0, rfl, _, hb0, hc⟩ := HR.out (by omega)
      obtain ⟨cs, hcl, hat, hR⟩ := hc k hlt
      have HE := Lib.hid hR
      obtain ⟨A0_1, n0_1, c0_1, A0_2, n0_2, c0_2, A0_3, n0_3, c0_3, hcs⟩ := tyBytesOf_sh hR
      have c0 : w.cell? ⟨b0, o0 + k * 4, none⟩ = some (.bool (D.getD k tyBytesOf.z).1) := by
        have h := hat 0 (by rw [hcl]; decide)
        rw [hcs] at h
        exact h
      have c1 : w.cell? ⟨b0, o0 + k * 4 + 1, none⟩ = some (.slice A0_1 n0_1 c0_1) := by
        have h := hat 1 (by rw [hcl]; decide)
        rw [hcs] at h
        exact h
      have c2 : w.cell? ⟨b0, o0 + k * 4 + 2, none⟩ = some (.slice A0_2 n0_2 c0_2) := by
        have h := hat 2 (by rw [hcl]; decide)
        rw [hcs] at h
        exact h
      have c3 : w.cell? ⟨b0, o0 + k * 4 + 3, none⟩ = some (.slice A0_3 n0_3 c0_3) := by
        have h := hat 3 (by rw [hcl]; decide)
        rw [hcs] at h
        exact h
      rw [hcs] at HE
      rw [← kc HB.out _ _ hb0] at c0 c1 c2 c3
      clear hc hcl hat hR hcs
      obtain ⟨b1, o1, rfl, _, hb2, hc⟩ := HR2.out (by omega)
      obtain ⟨cs, hcl, hat, hR⟩ := hc k hlt
      have HF := Lib.hid hR
      obtain ⟨A1_1, n1_1, c1_1, A1_2, n1_2, c1_2, A1_3, n1_3, c1_3, hcs⟩ := tyBytesOf_sh hR
      have d0 : w.cell? ⟨b1, o1 + k * 4, none⟩ = some (.bool (D.getD k tyBytesOf.z).1) := by
        have h := hat 0 (by rw [hcl]; decide)
        rw [hcs] at h
        exact h
      have d1 : w.cell? ⟨b1, o1 + k * 4 + 1, none⟩ = some (.slice A1_1 n1_1 c1_1) := by
        have h := hat 1 (by rw [hcl]; decide)
        rw [hcs] at h
        exact h
      have d2 : w.cell? ⟨b1, o1 + k * 4 + 2, none⟩ = some (.slice A1_2 n1_2 c1_2) := by
        have h := hat 2 (by rw [hcl]; decide)
        rw [hcs] at h
        exact h
      have d3 : w.cell? ⟨b1, o1 + k * 4 + 3, none⟩ = some (.slice A1_3 n1_3 c1_3) := by
        have h := hat 3 (by rw [hcl]; decide)
        rw [hcs] at h
        exact h
      rw [hcs] at HF
      rw [← kc HB.out _ _ hb2] at d0 d1 d2 d3
      clear hc hcl hat hR hcs
      generalize D.getD k tyBytesOf.z = d at c0 c1 c2 c3 d0 d1 d2 d3 HE HF
      have HD := Lib.hid HB.out.drew
      go_wp2_with fail
      go_region_held3 (fun w' => w'.cell? ⟨b0, o0 + k * 4, none⟩ = some (.bool d.1) ∧ w'.cell? ⟨b0, o0 + k * 4 + 1, none⟩ = some (.slice A0_1 n0_1 c0_1) ∧ w'.cell? ⟨b0, o0 + k * 4 + 2, none⟩ = some (.slice A0_2 n0_2 c0_2) ∧ w'.cell? ⟨b0, o0 + k * 4 + 3, none⟩ = some (.slice A0_3 n0_3 c0_3) ∧ w'.cell? ⟨b1, o1 + k * 4, none⟩ = some (.bool d.1) ∧ w'.cell? ⟨b1, o1 + k * 4 + 1, none⟩ = some (.slice A1_1 n1_1 c1_1) ∧ w'.cell? ⟨b1, o1 + k * 4 + 2, none⟩ = some (.slice A1_2 n1_2 c1_2) ∧ w'.cell? ⟨b1, o1 + k * 4 + 3, none⟩ = some (.slice A1_3 n1_3 c1_3))
        (first | exact ⟨(HKP.out _ _ hb0).trans c0, (HKP.out _ _ hb0).trans c1, (HKP.out _ _ hb0).trans c2, (HKP.out _ _ hb0).trans c3, (HKP.out _ _ hb2).trans d0, (HKP.out _ _ hb2).trans d1, (HKP.out _ _ hb2).trans d2, (HKP.out _ _ hb2).trans d3⟩ | exact ⟨c0, c1, c2, c3, d0, d1, d2, d3⟩)
        (first
          | (go_at_call 34
             refine (eqY_BytesOf (Ty.below_w HE.out HD.out) (Ty.below_w HF.out HD.out)).mono ?_
             rintro e w1 ⟨rfl, hb1⟩
             have HW1 := Lib.hid (HD.out.trans (hb1.mono HD.out.size))
             have HKP := Lib.hid (fun (x : Nat) (i : Nat) (hx : x < w.heap.size) => hb1.cell (p := ⟨x, i, none⟩) (Nat.lt_of_lt_of_le hx HD.out.size))
             clear hb1))
      go_wp2
      go_roundw
      case rel => exact ⟨k + 1, by omega, by go_num, HW1.out⟩
      case measure => simp [intOf]; omega
    · obtain rfl : k = n := by omega
      go_wp2
      go_ret
      exact ⟨rfl, HB.out⟩
set_option maxHeartbeats 2000000 in
theorem toY_SBytesOf (h : tySBytesOf.R w hi [x0] D) (hs : totSBytesOf D ≤ 1048576) :
    Calls Try.prog 18 #[x0] w fun e w' => ∃ y0 fp, e = .returned (y0) ∧ tySBytesOf.M w' fp [y0] D ∧ (∀ b ∈ fp, w.heap.size ≤ b ∧ b < w'.heap.size) ∧ Below w.heap.size w w' := by
  obtain ⟨A, n, c, e, hL, hn, hr⟩ := h
  obtain rfl : x0 = .slice A n c := by simpa using e
  have q : n ≤ 9223372036854775807 := by unfold maxLen at hn; omega
  have HR := Lib.hid hr
  have HL := Lib.hid hL
  have hs1 : n ≤ 1048576 := by unfold totSBytesOf at hs; omega
  have HS := Lib.hid hs
  clear e hr hn hL hs
  have hmk : ∀ u : World, (Instr.makeSlice 26 (.int .i64 (n : Int)) (.int .i64 (n : Int))).run Try.prog u = .ok (.slice (some ⟨u.heap.size, 0, none⟩) n n) (u.alloc (.cells (madeCells #[.bool false, .slice none 0 0, .slice none 0 0, .slice none 0 0] (n * 4)) 44)) := fun u => by
    obtain ⟨i0, hi, hz0, hz1, hz2⟩ := infoBytesOf
    have h := run_make (P := Try.prog) u 26 44 i0 _ Try.underlying26 hi hz0 .i64 .i64 (n : Int) (n : Int) (by omega) (Int.le_refl _) (by rw [hz2]; omega) (by omega)
    rw [hz1, Int.toNat_natCast] at h
    exact h
  go_enter Try.func18, Try.ntmps18
  go_wp2_with fail
  go_loopw [4] (fun i wr => ∃ (k : Nat) (fs : Nat → List Nat), k ≤ n ∧ i = .int .i64 k ∧ Grow tyBytesOf 4 wr w.heap.size n D k fs ∧ Below w.heap.size w wr) (fun i _ => n - (intOf i).toNat)
  case atStart => exact ⟨0, fun _ => [], Nat.zero_le _, rfl, Grow.made w n _ #[.bool false, .slice none 0 0, .slice none 0 0, .slice none 0 0] _, (Below.refl _ _).alloc (Nat.le_refl _) _⟩
  case round =>
    obtain ⟨k, fs, hk, rfl, hg, hb⟩ := hrel
    have HG := Lib.hid hg
    have HB := Lib.hid hb
    clear hg hb
    by_cases hlt : k < n
    · have hkd : k < D.length := by rw [HL.out]; exact hlt
      have hk1 : (k : Int) < n := by omega
      have hk2 : (0 : Int) ≤ k := by omega
      have ht : totBytesOf (D.getD k tyBytesOf.z) ≤ 1048576 := by
        have h1 := le_sum (f := totBytesOf) (getD_mem tyBytesOf.z hkd)
        have h2 := HS.out
        unfold totSBytesOf at h2
        omega
      obtain ⟨b0, o0, rfl, _, hb0, hc⟩ := HR.out (by omega)
      obtain ⟨cs, hcl, hat, hR⟩ := hc k hlt
      have HE := Lib.hid hR
      obtain ⟨A0_1, n0_1, c0_1, A0_2, n0_2, c0_2, A0_3, n0_3, c0_3, hcs⟩ := tyBytesOf_sh hR
      have c0 : w.cell? ⟨b0, o0 + k * 4, none⟩ = some (.bool (D.getD k tyBytesOf.z).1) := by
        have h := hat 0 (by rw [hcl]; decide)
        rw [hcs] at h
        exact h
      have c1 : w.cell? ⟨b0, o0 + k * 4 + 1, none⟩ = some (.slice A0_1 n0_1 c0_1) := by
        have h := hat 1 (by rw [hcl]; decide)
        rw [hcs] at h
        exact h
      have c2 : w.cell? ⟨b0, o0 + k * 4 + 2, none⟩ = some (.slice A0_2 n0_2 c0_2) := by
        have h := hat 2 (by rw [hcl]; decide)
        rw [hcs] at h
        exact h
      have c3 : w.cell? ⟨b0, o0 + k * 4 + 3, none⟩ = some (.slice A0_3 n0_3 c0_3) := by
        have h := hat 3 (by rw [hcl]; decide)
        rw [hcs] at h
        exact h
      rw [hcs] at HE
      rw [← kc HB.out _ _ hb0] at c0 c1 c2 c3
      clear hc hcl hat hR hcs
      have HST := Lib.hid (fun w1 fp ys h1 h2 h3 h4 => HG.out.step (w1 := w1) (fp := fp) (ys := ys) hlt h1 h2 h3 h4)
      generalize D.getD k tyBytesOf.z = d at c0 c1 c2 c3 HE ht HST
      go_wp2_with fail
      refine (toY_BytesOf (Ty.below_w HE.out HB.out) ht).mono ?_
      rintro e w1 ⟨x0, x1, x2, x3, fp, rfl, hm, hfp, hb1⟩
      obtain ⟨Ay_1, ny_1, cy_1, Ay_2, ny_2, cy_2, Ay_3, ny_3, cy_3, hsh⟩ := tyBytesOf_shM hm
      simp only [List.cons.injEq, and_true] at hsh
      obtain ⟨rfl, rfl, rfl, rfl⟩ := hsh
      have HM := Lib.hid hm
      have HFP := Lib.hid hfp
      have HB1 := Lib.hid hb1
      have HW1 := Lib.hid (HB.out.trans (hb1.mono HB.out.size))
      have hg0 : w.heap.size ≤ w.heap.size := Nat.le_refl _
      have hgT : w.heap.size < w1.heap.size := Nat.lt_of_lt_of_le HG.out.lt hb1.size
      have f0 : w1.frozen? ⟨w.heap.size, k * 4, none⟩ = false := (hb1.frozen (p := ⟨w.heap.size, k * 4, none⟩) HG.out.lt).trans (HG.out.frz _)
      have f1 : w1.frozen? ⟨w.heap.size, k * 4 + 1, none⟩ = false := (hb1.frozen (p := ⟨w.heap.size, k * 4 + 1, none⟩) HG.out.lt).trans (HG.out.frz _)
      have f2 : w1.frozen? ⟨w.heap.size, k * 4 + 2, none⟩ = false := (hb1.frozen (p := ⟨w.heap.size, k * 4 + 2, none⟩) HG.out.lt).trans (HG.out.frz _)
      have f3 : w1.frozen? ⟨w.heap.size, k * 4 + 3, none⟩ = false := (hb1.frozen (p := ⟨w.heap.size, k * 4 + 3, none⟩) HG.out.lt).trans (HG.out.frz _)
      have hmul : (k + 1) * 4 ≤ n * 4 := Nat.mul_le_mul_right 4 hlt
      obtain ⟨v0, t0⟩ : ∃ v, w1.cell? ⟨w.heap.size, k * 4, none⟩ = some v := by
        obtain ⟨v, hv⟩ := HG.out.rest (k * 4) (by omega)
        exact ⟨v, (hb1.cell (p := ⟨w.heap.size, k * 4, none⟩) HG.out.lt).trans hv⟩
      obtain ⟨v1, t1⟩ : ∃ v, w1.cell? ⟨w.heap.size, k * 4 + 1, none⟩ = some v := by
        obtain ⟨v, hv⟩ := HG.out.rest (k * 4 + 1) (by omega)
        exact ⟨v, (hb1.cell (p := ⟨w.heap.size, k * 4 + 1, none⟩) HG.out.lt).trans hv⟩
      obtain ⟨v2, t2⟩ : ∃ v, w1.cell? ⟨w.heap.size, k * 4 + 2, none⟩ = some v := by
        obtain ⟨v, hv⟩ := HG.out.rest (k * 4 + 2) (by omega)
        exact ⟨v, (hb1.cell (p := ⟨w.heap.size, k * 4 + 2, none⟩) HG.out.lt).trans hv⟩
      obtain ⟨v3, t3⟩ : ∃ v, w1.cell? ⟨w.heap.size, k * 4 + 3, none⟩ = some v := by
        obtain ⟨v, hv⟩ := HG.out.rest (k * 4 + 3) (by omega)
        exact ⟨v, (hb1.cell (p := ⟨w.heap.size, k * 4 + 3, none⟩) HG.out.lt).trans hv⟩
      clear hm hfp hb1 hmul c0 c1 c2 c3
      go_wp2
      go_roundw
      case rel => exact ⟨k + 1, _, by omega, by go_num, HST.out w1 fp [.bool d.1, .slice Ay_1 ny_1 cy_1, .slice Ay_2 ny_2 cy_2, .slice Ay_3 ny_3 cy_3] HB1.out HM.out HFP.out rfl, ((((HW1.out.setCell hg0 _).setCell hg0 _).setCell hg0 _).setCell hg0 _)⟩
      case measure => simp [intOf]; omega
    · obtain rfl : k = n := by omega
      go_wp2
      go_ret
      obtain ⟨fp, h1, h2⟩ := HG.out.done (Nat.le_refl w.heap.size)
      exact ⟨_, fp, rfl, ⟨_, _, _, rfl, HL.out, hs1, h1⟩, h2, HB.out⟩
set_option maxHeartbeats 2000000 in
theorem markY_SBytesOf (k : Int) (h0 : 0 < k) (h1 : k + 8 * totSBytesOf D ≤ 8388609) (hm : tySBytesOf.M w fp [x0] D) (hf : ∀ b ∈ fp, b < w.heap.size) :
    Calls Try.prog 26 #[x0, .int .i64 k] w fun e w' => e = .returned (.int .i64 (k + cntSBytesOf D)) ∧ tySBytesOf.M w' fp [x0] (mksSBytesOf k D) ∧ Foot w w' fp := by
  obtain ⟨A, n, c, e, hL, hn, hr⟩ := hm
  obtain rfl : x0 = .slice A n c := by simpa using e
  have HL := Lib.hid hL
  have HN := Lib.hid hn
  unfold cntSBytesOf mksSBytesOf
  have HT1 := Lib.hid h1
  unfold totSBytesOf at h1
  rw [hL] at h1
  clear e hL
  by_cases hz : 0 < n
  case neg =>
    obtain rfl : n = 0 := by omega
    have hD : D = [] := List.eq_nil_of_length_eq_zero HL.out
    subst hD
    clear hr HL h1 hn
    go_enter Try.func26, Try.ntmps26
    go_wp2_with fail
    go_loop [1, 5] (fun x i => x = .int .i64 k ∧ i = .int .i64 0) (fun _ _ => 0)
    case atStart => exact ⟨rfl, rfl⟩
    case round =>
      obtain ⟨rfl, rfl⟩ := hrel
      go_wp2
      go_ret
      exact ⟨ret_int (by simp), ⟨_, _, _, rfl, rfl, HN.out, fun h => absurd h (Nat.lt_irrefl 0)⟩, Foot.refl _ _⟩
  obtain ⟨b, o, fs, rfl, ho⟩ := hr.own hz
  have HO := Lib.hid ho
  have HF := Lib.hid hf
  clear hr ho hf hn hz
  go_enter Try.func26, Try.ntmps26
  go_wp2_with fail
  go_loopw [1, 5] (fun x i wr => ∃ q : Nat, q ≤ n ∧ i = .int .i64 q ∧ x = .int .i64 (k + upZ cntEBytesOf D q) ∧ OwnN tyBytesOf 4 wr fp b o n (mkLto mksEBytesOf cntEBytesOf k D q) fs ∧ Foot w wr fp) (fun _ i _ => n - (intOf i).toNat)
  case atStart => exact ⟨0, Nat.zero_le _, rfl, by rw [upZ_zero]; go_num, by rw [mkLto_zero]; exact HO.out, Foot.refl _ _⟩
  case round =>
    obtain ⟨q, hq, rfl, rfl, hr, ht⟩ := hrel
    have HR := Lib.hid hr
    have HT := Lib.hid ht
    clear hr ht
    by_cases hlt : q < n
    · have hqd : q < D.length := by rw [HL.out]; exact hlt
      have hk1 : (q : Int) < n := by omega
      have hk2 : (0 : Int) ≤ q := by omega
      obtain ⟨cs, hcl, hat, hM⟩ := HR.out.elt q hlt
      rw [mkLto_at tyBytesOf.z hqd] at hM
      have HST := Lib.hid (upZ_step tyBytesOf.z (f := cntEBytesOf) hqd)
      have HX := Lib.hid (mkLto_step tyBytesOf.z (mk := mksEBytesOf) (c := cntEBytesOf) (k := k) hqd)
      have hce := cntEBytesOf_le (D.getD q tyBytesOf.z)
      have hup : 0 ≤ upZ cntEBytesOf D q ∧ upZ cntEBytesOf D q + 8 + 8 * (totBytesOf (D.getD q tyBytesOf.z) : Int) ≤ 8 * (totSBytesOf D : Int) := by
        have h1 := sum_bounds cntEBytesOf_le (D.take q)
        have h2 := upN_step tyBytesOf.z (f := totBytesOf) hqd
        have h3 := upN_le (f := totBytesOf) (l := D) (k := q + 1)
        have h4 : (D.take q).length = q := by rw [List.length_take]; omega
        unfold upZ
        unfold upN at h2 h3
        unfold totSBytesOf
        rw [h4] at h1
        rw [HL.out]
        omega
      have hkt := HT1.out
      generalize D.getD q tyBytesOf.z = d at hM HX HST hce hup
      obtain ⟨Ae_1, ne_1, ce_1, Ae_2, ne_2, ce_2, Ae_3, ne_3, ce_3, hcs⟩ := tyBytesOf_shM hM
      rw [hcs] at hM hat hcl
      obtain ⟨f1, f2, f3, hfs, _, m1, m2, m3, d1_2, d1_3, d2_3⟩ := tyBytesOf_M hM
      have c0 : wr.cell? ⟨b, o + q * 4, none⟩ = some (.bool d.1) := hat 0 (by rw [hcl]; decide)
      have f_0 : wr.frozen? ⟨b, o + q * 4, none⟩ = false := HR.out.frz _
      have c1 : wr.cell? ⟨b, o + q * 4 + 1, none⟩ = some (.slice Ae_1 ne_1 ce_1) := hat 1 (by rw [hcl]; decide)
      have f_1 : wr.frozen? ⟨b, o + q * 4 + 1, none⟩ = false := HR.out.frz _
      have c2 : wr.cell? ⟨b, o + q * 4 + 2, none⟩ = some (.slice Ae_2 ne_2 ce_2) := hat 2 (by rw [hcl]; decide)
      have f_2 : wr.frozen? ⟨b, o + q * 4 + 2, none⟩ = false := HR.out.frz _
      have c3 : wr.cell? ⟨b, o + q * 4 + 3, none⟩ = some (.slice Ae_3 ne_3 ce_3) := hat 3 (by rw [hcl]; decide)
      have f_3 : wr.frozen? ⟨b, o + q * 4 + 3, none⟩ = false := HR.out.frz _
      have hbl := HR.out.lt
      have HFS := Lib.hid hfs
      have HM1 := Lib.hid m1
      have hF1 : ∀ y ∈ f1, y ≠ b ∧ y < wr.heap.size := fun y hy => (HR.out.sub q hlt y (by rw [hfs]; exact (List.mem_append_right _ (List.mem_append_left _ hy)))).2
      have HF1 := Lib.hid hF1
      have HM2 := Lib.hid m2
      have hF2 : ∀ y ∈ f2, y ≠ b ∧ y < wr.heap.size := fun y hy => (HR.out.sub q hlt y (by rw [hfs]; exact (List.mem_append_right _ (List.mem_append_right _ (List.mem_append_left _ hy))))).2
      have HF2 := Lib.hid hF2
      have HM3 := Lib.hid m3
      have hF3 : ∀ y ∈ f3, y ≠ b ∧ y < wr.heap.size := fun y hy => (HR.out.sub q hlt y (by rw [hfs]; exact (List.mem_append_right _ (List.mem_append_right _ (List.mem_append_right _ hy))))).2
      have HF3 := Lib.hid hF3
      have HD1_2 := Lib.hid d1_2
      have HD1_3 := Lib.hid d1_3
      have HD2_3 := Lib.hid d2_3
      clear hat hcl hM hcs hfs m1 hF1 m2 hF2 m3 hF3 d1_2 d1_3 d2_3
      obtain ⟨KK, hK⟩ : ∃ KK : Int, k + upZ cntEBytesOf D q = KK := ⟨_, rfl⟩
      have hKb : 0 < KK ∧ KK + 8 + 8 * (totBytesOf d : Int) ≤ 8388609 := by omega
      rw [hK] at HX
      rw [hK]
      have HK := Lib.hid hK
      clear hK hup hkt
      unfold totBytesOf at hKb hce
      have n1 := cntSArea_le d.2.1
      have n2 := cntSInt_le d.2.2.1
      have n3 := cntSString_le d.2.2.2
      have BK0 := Lib.hid (Blk.refl b (o + q * 4) 4 wr)
      have FT0 := Lib.hid (Foot.refl wr (b :: fs q))
      go_wp2_with fail
      have BP0 := Lib.hid (BK0.out.set (o + q * 4) (by omega) (.bool ((KK) % 3 == 0)))
      have FP0 := Lib.hid (FT0.out.set (b := b) List.mem_cons_self (o + q * 4) (.bool ((KK) % 3 == 0)))
      have hbp0 : b < (wr.setCell ⟨b, o + q * 4, none⟩ (.bool ((KK) % 3 == 0))).heap.size := by simpa using hbl
      have p0_0 : (wr.setCell ⟨b, o + q * 4, none⟩ (.bool ((KK) % 3 == 0))).cell? ⟨b, o + q * 4, none⟩ = some (.bool ((KK) % 3 == 0)) := (World.cell?_setCell_same _ ⟨b, o + q * 4, none⟩ (.bool ((KK) % 3 == 0)) c0)
      have p0_1 : (wr.setCell ⟨b, o + q * 4, none⟩ (.bool ((KK) % 3 == 0))).cell? ⟨b, o + q * 4 + 1, none⟩ = some (.slice Ae_1 ne_1 ce_1) := ((World.cell?_setCell_other _ ⟨b, o + q * 4, none⟩ ⟨b, o + q * 4 + 1, none⟩ (.bool ((KK) % 3 == 0)) (fun e => by injection e with _ e2; omega)).trans c1)
      have p0_2 : (wr.setCell ⟨b, o + q * 4, none⟩ (.bool ((KK) % 3 == 0))).cell? ⟨b, o + q * 4 + 2, none⟩ = some (.slice Ae_2 ne_2 ce_2) := ((World.cell?_setCell_other _ ⟨b, o + q * 4, none⟩ ⟨b, o + q * 4 + 2, none⟩ (.bool ((KK) % 3 == 0)) (fun e => by injection e with _ e2; omega)).trans c2)
      have p0_3 : (wr.setCell ⟨b, o + q * 4, none⟩ (.bool ((KK) % 3 == 0))).cell? ⟨b, o + q * 4 + 3, none⟩ = some (.slice Ae_3 ne_3 ce_3) := ((World.cell?_setCell_other _ ⟨b, o + q * 4, none⟩ ⟨b, o + q * 4 + 3, none⟩ (.bool ((KK) % 3 == 0)) (fun e => by injection e with _ e2; omega)).trans c3)
      have MP0_1 := Lib.hid (tySArea.mframe HM1.out fun y hy => (heap_setCell_other _ ⟨b, o + q * 4, none⟩ y (.bool ((KK) % 3 == 0)) (HF1.out y hy).1).trans (rfl))
      have MP0_2 := Lib.hid (tySInt.mframe HM2.out fun y hy => (heap_setCell_other _ ⟨b, o + q * 4, none⟩ y (.bool ((KK) % 3 == 0)) (HF2.out y hy).1).trans (rfl))
      have MP0_3 := Lib.hid (tySString.mframe HM3.out fun y hy => (heap_setCell_other _ ⟨b, o + q * 4, none⟩ y (.bool ((KK) % 3 == 0)) (HF3.out y hy).1).trans (rfl))
      refine (markY_SArea (KK + 1) (by omega) (by omega) MP0_1.out (fun y hy => Nat.lt_of_lt_of_le (HF1.out y hy).2 FP0.out.size)).mono ?_
      rintro e w1 ⟨rfl, hm0, ht0⟩
      have hbb0 := ht0.block b hbp0 (fun h => (HF1.out b h).1 rfl)
      replace c0 := (cell_of_block hbb0 (o + q * 4)).trans p0_0
      replace f_0 : w1.frozen? ⟨b, o + q * 4, none⟩ = false := (frozen_of_block hbb0 (o + q * 4)).trans (by simpa using f_0)
      replace c1 := (cell_of_block hbb0 (o + q * 4 + 1)).trans p0_1
      replace f_1 : w1.frozen? ⟨b, o + q * 4 + 1, none⟩ = false := (frozen_of_block hbb0 (o + q * 4 + 1)).trans (by simpa using f_1)
      replace c2 := (cell_of_block hbb0 (o + q * 4 + 2)).trans p0_2
      replace f_2 : w1.frozen? ⟨b, o + q * 4 + 2, none⟩ = false := (frozen_of_block hbb0 (o + q * 4 + 2)).trans (by simpa using f_2)
      replace c3 := (cell_of_block hbb0 (o + q * 4 + 3)).trans p0_3
      replace f_3 : w1.frozen? ⟨b, o + q * 4 + 3, none⟩ = false := (frozen_of_block hbb0 (o + q * 4 + 3)).trans (by simpa using f_3)
      have BK1 := Lib.hid (BP0.out.same hbb0)
      have FT1 := Lib.hid (FP0.out.trans (ht0.sub fun y hy => List.mem_cons_of_mem _ (by rw [HFS.out]; exact (List.mem_append_right _ (List.mem_append_left _ hy)))))
      have hbl1 := Nat.lt_of_lt_of_le hbp0 ht0.size
      have MC0_1 := Lib.hid hm0
      have MC0_2 := Lib.hid (tySInt.mframe MP0_2.out fun y hy => ht0.block y ((fun y hy => Nat.lt_of_lt_of_le (HF2.out y hy).2 FP0.out.size) y hy) (fun h => HD1_2.out y h hy))
      have MC0_3 := Lib.hid (tySString.mframe MP0_3.out fun y hy => ht0.block y ((fun y hy => Nat.lt_of_lt_of_le (HF3.out y hy).2 FP0.out.size) y hy) (fun h => HD1_3.out y h hy))
      clear hm0 ht0 hbb0 hbp0 p0_0 p0_1 p0_2 p0_3
      go_wp2_with fail
      have BP1 := Lib.hid BK1.out
      have FP1 := Lib.hid FT1.out
      have hbp1 : b < w1.heap.size := by simpa using hbl1
      have p1_0 : w1.cell? ⟨b, o + q * 4, none⟩ = some (.bool ((KK) % 3 == 0)) := c0
      have p1_1 : w1.cell? ⟨b, o + q * 4 + 1, none⟩ = some (.slice Ae_1 ne_1 ce_1) := c1
      have p1_2 : w1.cell? ⟨b, o + q * 4 + 2, none⟩ = some (.slice Ae_2 ne_2 ce_2) := c2
      have p1_3 : w1.cell? ⟨b, o + q * 4 + 3, none⟩ = some (.slice Ae_3 ne_3 ce_3) := c3
      have MP1_1 := Lib.hid (tySArea.mframe MC0_1.out fun y hy => rfl)
      have MP1_2 := Lib.hid (tySInt.mframe MC0_2.out fun y hy => rfl)
      have MP1_3 := Lib.hid (tySString.mframe MC0_3.out fun y hy => rfl)
      refine (markY_SInt (KK + 1 + cntSArea d.2.1) (by omega) (by omega) MP1_2.out (fun y hy => Nat.lt_of_lt_of_le (HF2.out y hy).2 FP1.out.size)).mono ?_
      rintro e w2 ⟨rfl, hm1, ht1⟩
      have hbb1 := ht1.block b hbp1 (fun h => (HF2.out b h).1 rfl)
      replace c0 := (cell_of_block hbb1 (o + q * 4)).trans p1_0
      replace f_0 : w2.frozen? ⟨b, o + q * 4, none⟩ = false := (frozen_of_block hbb1 (o + q * 4)).trans (by simpa using f_0)
      replace c1 := (cell_of_block hbb1 (o + q * 4 + 1)).trans p1_1
      replace f_1 : w2.frozen? ⟨b, o + q * 4 + 1, none⟩ = false := (frozen_of_block hbb1 (o + q * 4 + 1)).trans (by simpa using f_1)
      replace c2 := (cell_of_block hbb1 (o + q * 4 + 2)).trans p1_2
      replace f_2 : w2.frozen? ⟨b, o + q * 4 + 2, none⟩ = false := (frozen_of_block hbb1 (o + q * 4 + 2)).trans (by simpa using f_2)
      replace c3 := (cell_of_block hbb1 (o + q * 4 + 3)).trans p1_3
      replace f_3 : w2.frozen? ⟨b, o + q * 4 + 3, none⟩ = false := (frozen_of_block hbb1 (o + q * 4 + 3)).trans (by simpa using f_3)
      have BK2 := Lib.hid (BP1.out.same hbb1)
      have FT2 := Lib.hid (FP1.out.trans (ht1.sub fun y hy => List.mem_cons_of_mem _ (by rw [HFS.out]; exact (List.mem_append_right _ (List.mem_append_right _ (List.mem_append_left _ hy))))))
      have hbl2 := Nat.lt_of_lt_of_le hbp1 ht1.size
      have MC1_1 := Lib.hid (tySArea.mframe MP1_1.out fun y hy => ht1.block y ((fun y hy => Nat.lt_of_lt_of_le (HF1.out y hy).2 FP1.out.size) y hy) (fun h => HD1_2.out y hy h))
      have MC1_2 := Lib.hid hm1
      have MC1_3 := Lib.hid (tySString.mframe MP1_3.out fun y hy => ht1.block y ((fun y hy => Nat.lt_of_lt_of_le (HF3.out y hy).2 FP1.out.size) y hy) (fun h => HD2_3.out y h hy))
      clear hm1 ht1 hbb1 hbp1 p1_0 p1_1 p1_2 p1_3
      go_wp2_with fail
      have BP2 := Lib.hid BK2.out
      have FP2 := Lib.hid FT2.out
      have hbp2 : b < w2.heap.size := by simpa using hbl2
      have p2_0 : w2.cell? ⟨b, o + q * 4, none⟩ = some (.bool ((KK) % 3 == 0)) := c0
      have p2_1 : w2.cell? ⟨b, o + q * 4 + 1, none⟩ = some (.slice Ae_1 ne_1 ce_1) := c1
      have p2_2 : w2.cell? ⟨b, o + q * 4 + 2, none⟩ = some (.slice Ae_2 ne_2 ce_2) := c2
      have p2_3 : w2.cell? ⟨b, o + q * 4 + 3, none⟩ = some (.slice Ae_3 ne_3 ce_3) := c3
      have MP2_1 := Lib.hid (tySArea.mframe MC1_1.out fun y hy => rfl)
      have MP2_2 := Lib.hid (tySInt.mframe MC1_2.out fun y hy => rfl)
      have MP2_3 := Lib.hid (tySString.mframe MC1_3.out fun y hy => rfl)
      refine (markY_SString (KK + 1 + cntSArea d.2.1 + cntSInt d.2.2.1) (by omega) (by omega) MP2_3.out (fun y hy => Nat.lt_of_lt_of_le (HF3.out y hy).2 FP2.out.size)).mono ?_
      rintro e w3 ⟨rfl, hm2, ht2⟩
      have hbb2 := ht2.block b hbp2 (fun h => (HF3.out b h).1 rfl)
      replace c0 := (cell_of_block hbb2 (o + q * 4)).trans p2_0
      replace f_0 : w3.frozen? ⟨b, o + q * 4, none⟩ = false := (frozen_of_block hbb2 (o + q * 4)).trans (by simpa using f_0)
      replace c1 := (cell_of_block hbb2 (o + q * 4 + 1)).trans p2_1
      replace f_1 : w3.frozen? ⟨b, o + q * 4 + 1, none⟩ = false := (frozen_of_block hbb2 (o + q * 4 + 1)).trans (by simpa using f_1)
      replace c2 := (cell_of_block hbb2 (o + q * 4 + 2)).trans p2_2
      replace f_2 : w3.frozen? ⟨b, o + q * 4 + 2, none⟩ = false := (frozen_of_block hbb2 (o + q * 4 + 2)).trans (by simpa using f_2)
      replace c3 := (cell_of_block hbb2 (o + q * 4 + 3)).trans p2_3
      replace f_3 : w3.frozen? ⟨b, o + q * 4 + 3, none⟩ = false := (frozen_of_block hbb2 (o + q * 4 + 3)).trans (by simpa using f_3)
      have BK3 := Lib.hid (BP2.out.same hbb2)
      have FT3 := Lib.hid (FP2.out.trans (ht2.sub fun y hy => List.mem_cons_of_mem _ (by rw [HFS.out]; exact (List.mem_append_right _ (List.mem_append_right _ (List.mem_append_right _ hy))))))
      have hbl3 := Nat.lt_of_lt_of_le hbp2 ht2.size
      have MC2_1 := Lib.hid (tySArea.mframe MP2_1.out fun y hy => ht2.block y ((fun y hy => Nat.lt_of_lt_of_le (HF1.out y hy).2 FP2.out.size) y hy) (fun h => HD1_3.out y hy h))
      have MC2_2 := Lib.hid (tySInt.mframe MP2_2.out fun y hy => ht2.block y ((fun y hy => Nat.lt_of_lt_of_le (HF2.out y hy).2 FP2.out.size) y hy) (fun h => HD2_3.out y hy h))
      have MC2_3 := Lib.hid hm2
      clear hm2 ht2 hbb2 hbp2 p2_0 p2_1 p2_2 p2_3
      go_wp2
      go_roundw
      case rel =>
        have hfin := tyBytesOf_Mmk (D := mksEBytesOf KK d) (tySArea.mframe MC2_1.out fun y hy => rfl) (tySInt.mframe MC2_2.out fun y hy => rfl) (tySString.mframe MC2_3.out fun y hy => rfl) HD1_2.out HD1_3.out HD2_3.out
        rw [← HFS.out] at hfin
        have hst := HR.out.step (q := q) (mkLto_len HL.out) hlt FT3.out BK3.out rfl (fun r hr => ?hat) hfin
        case hat =>
          match r, hr with
          | 0, _ => exact c0
          | 1, _ => exact c1
          | 2, _ => exact c2
          | 3, _ => exact c3
          | r + 4, h => exact absurd h (by simp)
        rw [HX.out] at hst
        have hk' := HK.out
        have hs' := HST.out
        rw [cntEBytesOf.eq_1] at hs'
        exact ⟨q + 1, by omega, by go_num, congrArg (Value.int .i64) (by omega), hst, HT.out.trans (FT3.out.sub fun y hy => (List.mem_cons.1 hy).elim (fun h => by rw [h]; exact HR.out.mem) (fun h => (HR.out.sub q hlt y h).1))⟩
      case measure => simp [intOf]; omega
    · obtain rfl : q = n := by omega
      go_wp2
      go_ret
      have hrr := HR.out
      rw [mkLto_end HL.out] at hrr
      exact ⟨by rw [upZ_end HL.out]; rfl, ⟨_, _, _, rfl, by rw [mkL_len]; exact HL.out, HN.out, hrr.row⟩, HT.out⟩
set_option maxHeartbeats 2000000 in
theorem heldY_SBytesOf (k : Int) (h0 : 0 < k) (h1 : k + 8 * totSBytesOf D ≤ 8388609) (h : tySBytesOf.R w hi [x0] (mksSBytesOf k D)) :
    Calls Try.prog 27 #[x0, .int .i64 k] w fun e w' => e = .returned (.int .i64 (k + cntSBytesOf D)) ∧ Below w.heap.size w w' := by
  obtain ⟨A, n, c, e, hL, hn, hr⟩ := h
  obtain rfl : x0 = .slice A n c := by simpa using e
  rw [show (mksSBytesOf k D).length = D.length from mkL_len k D] at hL
  have HL := Lib.hid hL
  have HR := Lib.hid hr
  have HT1 := Lib.hid h1
  unfold cntSBytesOf
  unfold totSBytesOf at h1
  rw [hL] at h1
  clear e hL hr
  go_enter Try.func27, Try.ntmps27
  go_wp2_with fail
  go_loopw [1, 5] (fun x i wr => ∃ q : Nat, q ≤ n ∧ i = .int .i64 q ∧ x = .int .i64 (k + upZ cntEBytesOf D q) ∧ Below w.heap.size w wr) (fun _ i _ => n - (intOf i).toNat)
  case atStart => exact ⟨0, Nat.zero_le _, rfl, by rw [upZ_zero]; go_num, Below.refl _ _⟩
  case round =>
    obtain ⟨q, hq, rfl, rfl, hb⟩ := hrel
    have HB0 := Lib.hid hb
    clear hb
    by_cases hlt : q < n
    · have hqd : q < D.length := by rw [HL.out]; exact hlt
      have hk1 : (q : Int) < n := by omega
      have hk2 : (0 : Int) ≤ q := by omega
      obtain ⟨b, o, rfl, _, hb0, hc⟩ := HR.out (by omega)
      obtain ⟨cs, hcl, hat, hR⟩ := hc q hlt
      rw [show (mksSBytesOf k D).getD q tyBytesOf.z = _ from mkL_at tyBytesOf.z k D q hqd] at hR
      have HST := Lib.hid (upZ_step tyBytesOf.z (f := cntEBytesOf) hqd)
      have hce := cntEBytesOf_le (D.getD q tyBytesOf.z)
      have hup : 0 ≤ upZ cntEBytesOf D q ∧ upZ cntEBytesOf D q + 8 + 8 * (totBytesOf (D.getD q tyBytesOf.z) : Int) ≤ 8 * (totSBytesOf D : Int) := by
        have h1 := sum_bounds cntEBytesOf_le (D.take q)
        have h2 := upN_step tyBytesOf.z (f := totBytesOf) hqd
        have h3 := upN_le (f := totBytesOf) (l := D) (k := q + 1)
        have h4 : (D.take q).length = q := by rw [List.length_take]; omega
        unfold upZ
        unfold upN at h2 h3
        unfold totSBytesOf
        rw [h4] at h1
        rw [HL.out]
        omega
      have hkt := HT1.out
      generalize D.getD q tyBytesOf.z = d at hR HST hce hup
      obtain ⟨KK, hK⟩ : ∃ KK : Int, k + upZ cntEBytesOf D q = KK := ⟨_, rfl⟩
      have hKb : 0 < KK ∧ KK + 8 + 8 * (totBytesOf d : Int) ≤ 8388609 := by omega
      rw [hK] at hR
      rw [hK]
      have HK := Lib.hid hK
      clear hK hup hkt
      unfold totBytesOf at hKb hce
      have n1 := cntSArea_le d.2.1
      have n2 := cntSInt_le d.2.2.1
      have n3 := cntSString_le d.2.2.2
      obtain ⟨Ae_1, ne_1, ce_1, Ae_2, ne_2, ce_2, Ae_3, ne_3, ce_3, hcs⟩ := tyBytesOf_sh hR
      rw [hcs] at hR hat hcl
      obtain ⟨_, r1, r2, r3⟩ := tyBytesOf_R hR
      have c0 : w.cell? ⟨b, o + q * 4, none⟩ = some (.bool ((KK) % 3 == 0)) := hat 0 (by rw [hcl]; decide)
      have c1 : w.cell? ⟨b, o + q * 4 + 1, none⟩ = some (.slice Ae_1 ne_1 ce_1) := hat 1 (by rw [hcl]; decide)
      have c2 : w.cell? ⟨b, o + q * 4 + 2, none⟩ = some (.slice Ae_2 ne_2 ce_2) := hat 2 (by rw [hcl]; decide)
      have c3 : w.cell? ⟨b, o + q * 4 + 3, none⟩ = some (.slice Ae_3 ne_3 ce_3) := hat 3 (by rw [hcl]; decide)
      rw [← kc HB0.out _ _ hb0] at c0 c1 c2 c3
      have HR1 := Lib.hid r1
      have HR2 := Lib.hid r2
      have HR3 := Lib.hid r3
      clear hc hat hcl hR hcs r1 r2 r3
      go_wp2_with fail
      refine (heldY_SArea (D := d.2.1) (KK + 1) (by omega) (by omega) (Ty.below_w HR1.out HB0.out)).mono ?_
      rintro e w1 ⟨rfl, hb1⟩
      have HB1 := Lib.hid (HB0.out.trans (hb1.mono HB0.out.size))
      replace c0 := (hb1.cell (p := ⟨b, o + q * 4, none⟩) (Nat.lt_of_lt_of_le hb0 HB0.out.size)).trans c0
      replace c1 := (hb1.cell (p := ⟨b, o + q * 4 + 1, none⟩) (Nat.lt_of_lt_of_le hb0 HB0.out.size)).trans c1
      replace c2 := (hb1.cell (p := ⟨b, o + q * 4 + 2, none⟩) (Nat.lt_of_lt_of_le hb0 HB0.out.size)).trans c2
      replace c3 := (hb1.cell (p := ⟨b, o + q * 4 + 3, none⟩) (Nat.lt_of_lt_of_le hb0 HB0.out.size)).trans c3
      clear hb1
      go_wp2_with fail
      refine (heldY_SInt (D := d.2.2.1) (KK + 1 + cntSArea d.2.1) (by omega) (by omega) (Ty.below_w HR2.out HB1.out)).mono ?_
      rintro e w2 ⟨rfl, hb2⟩
      have HB2 := Lib.hid (HB1.out.trans (hb2.mono HB1.out.size))
      replace c0 := (hb2.cell (p := ⟨b, o + q * 4, none⟩) (Nat.lt_of_lt_of_le hb0 HB1.out.size)).trans c0
      replace c1 := (hb2.cell (p := ⟨b, o + q * 4 + 1, none⟩) (Nat.lt_of_lt_of_le hb0 HB1.out.size)).trans c1
      replace c2 := (hb2.cell (p := ⟨b, o + q * 4 + 2, none⟩) (Nat.lt_of_lt_of_le hb0 HB1.out.size)).trans c2
      replace c3 := (hb2.cell (p := ⟨b, o + q * 4 + 3, none⟩) (Nat.lt_of_lt_of_le hb0 HB1.out.size)).trans c3
      clear hb2
      go_wp2_with fail
      refine (heldY_SString (D := d.2.2.2) (KK + 1 + cntSArea d.2.1 + cntSInt d.2.2.1) (by omega) (by omega) (Ty.below_w HR3.out HB2.out)).mono ?_
      rintro e w3 ⟨rfl, hb3⟩
      have HB3 := Lib.hid (HB2.out.trans (hb3.mono HB2.out.size))
      replace c0 := (hb3.cell (p := ⟨b, o + q * 4, none⟩) (Nat.lt_of_lt_of_le hb0 HB2.out.size)).trans c0
      replace c1 := (hb3.cell (p := ⟨b, o + q * 4 + 1, none⟩) (Nat.lt_of_lt_of_le hb0 HB2.out.size)).trans c1
      replace c2 := (hb3.cell (p := ⟨b, o + q * 4 + 2, none⟩) (Nat.lt_of_lt_of_le hb0 HB2.out.size)).trans c2
      replace c3 := (hb3.cell (p := ⟨b, o + q * 4 + 3, none⟩) (Nat.lt_of_lt_of_le hb0 HB2.out.size)).trans c3
      clear hb3
      go_wp2
      go_roundw
      case rel =>
        have hk' := HK.out
        have hs' := HST.out
        rw [cntEBytesOf.eq_1] at hs'
        exact ⟨q + 1, by omega, by go_num, congrArg (Value.int .i64) (by omega), HB3.out⟩
      case measure => simp [intOf]; omega
    · obtain rfl : q = n := by omega
      go_wp2
      go_ret
      exact ⟨by rw [upZ_end HL.out]; rfl, HB0.out⟩
end
end Go.Proofs.Ytnodmblieocamaa
