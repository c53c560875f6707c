/-
  Linked memory: the program's at.
-/
import Derived.Test.YtfmbadhiflaldaaMI1
import Derived.Test.YtfmbadhiflaldaaVAd
import Derived.BigRegion
namespace Go.Proofs.Ytfmbadhiflaldaa
open Go.RowKit
set_option maxRecDepth 100000

def arZ : EArea := ⟨0, 0, false, false⟩
def arV (a : EArea) : Value := .agg #[.int .i64 a.f0, .int .i64 a.f1, .bool a.f2, .bool a.f3]
/-- the area that a page is in -/
def arAt (l : List EArea) (g : Nat) : EArea := l.getD (fstA (g : Int) (arL l)) elArea.z
section
variable {w : World} {L base : Nat} {S : LS} {V AV : Nat → Value}
theorem at_off {u : Nat} {addr : Int} (ha : inB addr 0 63 = false) :
    Calls Try.prog 66 #[.pointer (some ⟨L, 96 + 66 * u, none⟩), .int .i64 addr] w fun e w' => e = .returned (.tuple #[.pointer none, arV arZ, .bool false]) ∧ Below w.heap.size w w' := by
  have HA := Lib.hid (addressOk_any (w := w.alloc (.cells #[.int .i64 0, .int .i64 0, .bool false, .bool false] 52)) addr)
  have HB := Lib.hid (show Below w.heap.size w (w.alloc (.cells #[.int .i64 0, .int .i64 0, .bool false, .bool false] 52)) from (Below.refl _ _).alloc (Nat.le_refl _) _)
  have HI := Lib.hid ha
  clear ha
  go_enter Try.func66, Try.ntmps66
  go_wp2_with fail
  refine HA.out.mono ?_
  rw [HI.out]
  rintro e w1 ⟨rfl, rfl⟩
  go_wp2_with fail
  refine bodyPost_ret (v := .tuple #[.pointer none, .agg #[.int .i64 0, .int .i64 0, .bool false, .bool false], .bool false]) (by simp [results, Try.results66, go_sem]) rfl ⟨rfl, HB.out⟩
theorem quo4 {g r : Nat} (hr : r < 4) : Int.tdiv ((4 * g + r : Nat) : Int) 4 = (g : Int) := by
  rw [show (4 : Int) = ((4 : Nat) : Int) from rfl, ← Int.ofNat_tdiv]
  congr 1
  omega
set_option maxHeartbeats 1000000 in
theorem at_none (h : LW w L base S V AV) {u g r : Nat} (hu : u < 5) (hg : g < 16) (hr : r < 4) (hok : okL (arL (S.areas u)) = true) (hn : ¬ fstA (g : Int) (arL (S.areas u)) < (S.areas u).length) :
    Calls Try.prog 66 #[.pointer (some ⟨L, 96 + 66 * u, none⟩), .int .i64 ((4 * g + r : Nat) : Int)] w fun e w' => e = .returned (.tuple #[.pointer none, arV arZ, .bool false]) ∧ Below w.heap.size w w' := by
  obtain ⟨A, n, c, ha, hl, hm, hrw⟩ := h.ar u hu
  have c1 := h.cell _ _ (.area u hu)
  rw [ha, show 97 + 66 * u = 96 + 66 * u + 1 by omega] at c1
  have hL := h.lt.2
  have hb := (Below.refl w.heap.size w).alloc (Nat.le_refl _) (.cells #[.int .i64 0, .int .i64 0, .bool false, .bool false] 52)
  have hat := atI_any (w := w.alloc (.cells #[.int .i64 0, .int .i64 0, .bool false, .bool false] 52)) (c := c) (g : Int) (hrw.wb hb).rowA (by rw [arL_len]; exact hl) hm (topL_ok hok)
  have hv : atV (arL (S.areas u)) (g : Int) = -1 := by
    unfold atV l2AtV
    rw [if_pos hok, if_neg (by rw [arL_len]; exact hn)]
  rw [hv] at hat
  have HAT := Lib.hid hat
  have HB := Lib.hid hb
  have HI := Lib.hid (show inB ((4 * g + r : Nat) : Int) 0 63 = true from inB_of (by omega))
  have HA := Lib.hid (addressOk_any (w := w.alloc (.cells #[.int .i64 0, .int .i64 0, .bool false, .bool false] 52)) ((4 * g + r : Nat) : Int))
  have HQ := Lib.hid (quo4 (g := g) hr)
  obtain ⟨ad, had⟩ : ∃ ad : Int, ((4 * g + r : Nat) : Int) = ad := ⟨_, rfl⟩
  rw [had] at HA HI HQ ⊢
  have hq := HQ.out
  clear h hok hn hrw hv hat hb ha hl hm had
  go_enter Try.func66, Try.ntmps66
  go_wp2_with fail
  refine HA.out.mono ?_
  rw [HI.out]
  rintro e w1 ⟨rfl, rfl⟩
  go_wp2_with fail
  refine HAT.out.mono ?_
  rintro e w1 ⟨rfl, hb1⟩
  have HB1 := Lib.hid (HB.out.trans (hb1.mono HB.out.size))
  have HX := Lib.hid ((Box.new w #[.int .i64 0, .int .i64 0, .bool false, .bool false] 52).below hb1 (by simp))
  have x0 := HX.out.cell 0
  have x1 := HX.out.cell 1
  have x2 := HX.out.cell 2
  have x3 := HX.out.cell 3
  have y0 := HX.out.frz 0
  have y1 := HX.out.frz 1
  have y2 := HX.out.frz 2
  have y3 := HX.out.frz 3
  have xl := HX.out.lt
  simp at x0 x1 x2 x3
  clear hb1
  go_wp2_with fail
  refine bodyPost_ret (v := .tuple #[.pointer none, .agg #[.int .i64 0, .int .i64 0, .bool false, .bool false], .bool false]) (by simp [results, Try.results66, go_sem, x0, x1, x2, x3]) rfl ⟨rfl, (((HB1.out.setCell (p := ⟨w.heap.size, 0, none⟩) (Nat.le_refl _) _).setCell (p := ⟨w.heap.size, 1, none⟩) (Nat.le_refl _) _).setCell (p := ⟨w.heap.size, 2, none⟩) (Nat.le_refl _) _).setCell (p := ⟨w.heap.size, 3, none⟩) (Nat.le_refl _) _⟩
theorem at_ok (h : LW w L base S V AV) {u g r : Nat} (hu : u < 5) (hg : g < 16) (hr : r < 4) (hok : okL (arL (S.areas u)) = true) (hn : fstA (g : Int) (arL (S.areas u)) < (S.areas u).length) :
    Calls Try.prog 66 #[.pointer (some ⟨L, 96 + 66 * u, none⟩), .int .i64 ((4 * g + r : Nat) : Int)] w fun e w' => e = .returned (.tuple #[.pointer (some ⟨L, sO (16 * u + g), none⟩), arV (arAt (S.areas u) g), .bool true]) ∧ Below w.heap.size w w' := by
  obtain ⟨A, n, c, ha, hl, hm, hrw⟩ := h.ar u hu
  have c1 := h.cell _ _ (.area u hu)
  rw [ha, show 97 + 66 * u = 96 + 66 * u + 1 by omega] at c1
  have hL := h.lt.2
  have hb := (Below.refl w.heap.size w).alloc (Nat.le_refl _) (.cells #[.int .i64 0, .int .i64 0, .bool false, .bool false] 52)
  have hat := atI_any (w := w.alloc (.cells #[.int .i64 0, .int .i64 0, .bool false, .bool false] 52)) (c := c) (g : Int) (hrw.wb hb).rowA (by rw [arL_len]; exact hl) hm (topL_ok hok)
  have hv : atV (arL (S.areas u)) (g : Int) = (fstA (g : Int) (arL (S.areas u)) : Int) := by
    unfold atV l2AtV
    rw [if_pos hok, if_pos (by rw [arL_len]; exact hn)]
  rw [hv] at hat
  unfold arAt
  obtain ⟨k, hk⟩ : ∃ k, fstA (g : Int) (arL (S.areas u)) = k := ⟨_, rfl⟩
  rw [hk] at hat hn ⊢
  obtain ⟨a, ha2⟩ : ∃ a, (S.areas u).getD k elArea.z = a := ⟨_, rfl⟩
  rw [ha2]
  obtain ⟨b, o, rfl, _, hbl, hcc⟩ := hrw (by omega)
  have hk1 : (k : Int) < n := by omega
  have hk2 : (0 : Int) ≤ k := by omega
  have hke : ((k : Int) == -1) = false := by simp only [beq_eq_false_iff_ne, ne_eq]; omega
  have q0 := hcc k (by omega) 0 (by decide)
  have q1 := hcc k (by omega) 1 (by decide)
  have q2 := hcc k (by omega) 2 (by decide)
  have q3 := hcc k (by omega) 3 (by decide)
  rw [ha2] at q0 q1 q2 q3
  have hso : 98 + 66 * u + 4 * g = sO (16 * u + g) := (sO_at hg).symm
  have hgi : (g : Int) < 16 := by omega
  have HBN := Lib.hid (show b < w.heap.size from hbl)
  replace q0 : w.cell? ⟨b, o + k * 4, none⟩ = some (.int .i64 a.f0) := q0
  replace q1 : w.cell? ⟨b, o + k * 4 + 1, none⟩ = some (.int .i64 a.f1) := q1
  replace q2 : w.cell? ⟨b, o + k * 4 + 2, none⟩ = some (.bool a.f2) := q2
  replace q3 : w.cell? ⟨b, o + k * 4 + 3, none⟩ = some (.bool a.f3) := q3
  obtain ⟨a0, a1, a2, a3⟩ := a
  dsimp only at q0 q1 q2 q3
  have HAT := Lib.hid hat
  have HB := Lib.hid hb
  have HI := Lib.hid (show inB ((4 * g + r : Nat) : Int) 0 63 = true from inB_of (by omega))
  have HA := Lib.hid (addressOk_any (w := w.alloc (.cells #[.int .i64 0, .int .i64 0, .bool false, .bool false] 52)) ((4 * g + r : Nat) : Int))
  have HQ := Lib.hid (quo4 (g := g) hr)
  obtain ⟨ad, had⟩ : ∃ ad : Int, ((4 * g + r : Nat) : Int) = ad := ⟨_, rfl⟩
  rw [had] at HA HI HQ ⊢
  have hq := HQ.out
  clear h hok hrw hv hat hb ha hl hm had ha2 hcc hn hk
  go_enter Try.func66, Try.ntmps66
  go_wp2_with fail
  refine HA.out.mono ?_
  rw [HI.out]
  rintro e w1 ⟨rfl, rfl⟩
  go_wp2_with fail
  refine HAT.out.mono ?_
  rintro e w1 ⟨rfl, hb1⟩
  have HB1 := Lib.hid (HB.out.trans (hb1.mono HB.out.size))
  have HX := Lib.hid ((Box.new w #[.int .i64 0, .int .i64 0, .bool false, .bool false] 52).below hb1 (by simp))
  have c1 := (kc hb1 L (96 + 66 * u + 1) (by simp; omega)).trans ((World.cell?_alloc_lt _ _ _ hL).trans c1)
  have q0 := (kc hb1 b (o + k * 4) (by simp; omega)).trans ((World.cell?_alloc_lt _ _ _ hbl).trans q0)
  have q1 := (kc hb1 b (o + k * 4 + 1) (by simp; omega)).trans ((World.cell?_alloc_lt _ _ _ hbl).trans q1)
  have q2 := (kc hb1 b (o + k * 4 + 2) (by simp; omega)).trans ((World.cell?_alloc_lt _ _ _ hbl).trans q2)
  have q3 := (kc hb1 b (o + k * 4 + 3) (by simp; omega)).trans ((World.cell?_alloc_lt _ _ _ hbl).trans q3)
  have hL1 : L < w1.heap.size := Nat.lt_of_lt_of_le hL HB1.out.size
  have hb2 : b < w1.heap.size := Nat.lt_of_lt_of_le hbl HB1.out.size
  have x0 := HX.out.cell 0
  have x1 := HX.out.cell 1
  have x2 := HX.out.cell 2
  have x3 := HX.out.cell 3
  have y0 := HX.out.frz 0
  have y1 := HX.out.frz 1
  have y2 := HX.out.frz 2
  have y3 := HX.out.frz 3
  have xl := HX.out.lt
  simp at x0 x1 x2 x3
  clear hb1 HAT HA HB
  go_wp2_with fail
  go_big_region
  go_wp2_with fail
  rw [show 96 + 66 * u + 2 + g * 4 = sO (16 * u + g) by rw [← hso]; omega]
  refine bodyPost_ret (v := .tuple #[.pointer (some ⟨L, sO (16 * u + g), none⟩), .agg #[.int .i64 a0, .int .i64 a1, .bool a2, .bool a3], .bool true]) (by simp [results, Try.results66, go_sem, x0, x1, x2, x3]) rfl ⟨rfl, ((((HB1.out.setCell (p := ⟨w.heap.size, 0, none⟩) (Nat.le_refl _) _).setCell (p := ⟨w.heap.size, 1, none⟩) (Nat.le_refl _) _).setCell (p := ⟨w.heap.size, 2, none⟩) (Nat.le_refl _) _).setCell (p := ⟨w.heap.size, 3, none⟩) (Nat.le_refl _) _).drew⟩
end
end Go.Proofs.Ytfmbadhiflaldaa
