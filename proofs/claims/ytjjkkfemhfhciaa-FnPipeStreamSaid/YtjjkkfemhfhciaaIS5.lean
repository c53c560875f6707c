/-
  The model's PipeJoin.
-/
import Derived.Test.YtjjkkfemhfhciaaIS
import Derived.BigRegion
namespace Go.Proofs.Ytjjkkfemhfhciaa
open Go.RowKit

section
variable {w : World}
set_option maxHeartbeats 2000000 in
theorem l9Join_true (t : ByteArray) (r k : Int) (hr0 : 0 ≤ r) (hr : r ≤ 99) (_hk0 : 0 ≤ k) (hk : k ≤ 99) :
    Calls Try.prog 51 #[.agg #[.string t, .int .i64 r, .int .i64 k], .bool true] w fun e w' => e = .returned (.tuple #[.agg #[.string t, .int .i64 (r + 1), .int .i64 k], .bool (decide (r < 99))]) ∧ Below w.heap.size w w' := by
  have HB := Lib.hid (Below.refl w.heap.size w)
  by_cases h : r < 99
  · rw [decide_eq_true h]
    have h1 : decide (r + 1 ≤ 99) = true := decide_eq_true (by omega)
    have h2 : decide (k ≤ 99) = true := decide_eq_true hk
    go_enter Try.func51, Try.ntmps51
    go_wp2_with fail
    go_big_region
    go_wp2_with fail
    exact bodyPost_ret (v := .tuple #[.agg #[.string t, .int .i64 (r + 1), .int .i64 k], .bool true]) (by simp [results, Try.results51, go_sem]) rfl ⟨rfl, (by repeat (first | exact HB.out | exact Below.refl _ _ | refine Below.setCell ?_ (by first | exact Nat.le_refl _ | exact Nat.le_add_right _ _ | (simp only [World.size_alloc]; omega) | (simp only [World.size_setCell]; omega) | (simp only [World.size_alloc, World.size_setCell]; omega) | omega) _ | refine Below.alloc ?_ (by first | exact Nat.le_refl _ | exact Nat.le_add_right _ _ | (simp only [World.size_alloc]; omega) | (simp only [World.size_setCell]; omega) | (simp only [World.size_alloc, World.size_setCell]; omega) | omega) _ | refine Below.drew ?_))⟩
  · rw [decide_eq_false h]
    have h1 : decide (r + 1 ≤ 99) = false := decide_eq_false (by omega)
    go_enter Try.func51, Try.ntmps51
    go_wp2_with fail
    go_big_region
    go_wp2_with fail
    exact bodyPost_ret (v := .tuple #[.agg #[.string t, .int .i64 (r + 1), .int .i64 k], .bool false]) (by simp [results, Try.results51, go_sem]) rfl ⟨rfl, (by repeat (first | exact HB.out | exact Below.refl _ _ | refine Below.setCell ?_ (by first | exact Nat.le_refl _ | exact Nat.le_add_right _ _ | (simp only [World.size_alloc]; omega) | (simp only [World.size_setCell]; omega) | (simp only [World.size_alloc, World.size_setCell]; omega) | omega) _ | refine Below.alloc ?_ (by first | exact Nat.le_refl _ | exact Nat.le_add_right _ _ | (simp only [World.size_alloc]; omega) | (simp only [World.size_setCell]; omega) | (simp only [World.size_alloc, World.size_setCell]; omega) | omega) _ | refine Below.drew ?_))⟩

set_option maxHeartbeats 2000000 in
theorem l9Join_false (t : ByteArray) (r k : Int) (_hr0 : 0 ≤ r) (hr : r ≤ 99) (hk0 : 0 ≤ k) (hk : k ≤ 99) :
    Calls Try.prog 51 #[.agg #[.string t, .int .i64 r, .int .i64 k], .bool false] w fun e w' => e = .returned (.tuple #[.agg #[.string t, .int .i64 r, .int .i64 (k + 1)], .bool (decide (k < 99))]) ∧ Below w.heap.size w w' := by
  have HB := Lib.hid (Below.refl w.heap.size w)
  by_cases h : k < 99
  · rw [decide_eq_true h]
    have h1 : decide (k + 1 ≤ 99) = true := decide_eq_true (by omega)
    have h2 : decide (r ≤ 99) = true := decide_eq_true hr
    go_enter Try.func51, Try.ntmps51
    go_wp2_with fail
    go_big_region
    go_wp2_with fail
    exact bodyPost_ret (v := .tuple #[.agg #[.string t, .int .i64 r, .int .i64 (k + 1)], .bool true]) (by simp [results, Try.results51, go_sem]) rfl ⟨rfl, (by repeat (first | exact HB.out | exact Below.refl _ _ | refine Below.setCell ?_ (by first | exact Nat.le_refl _ | exact Nat.le_add_right _ _ | (simp only [World.size_alloc]; omega) | (simp only [World.size_setCell]; omega) | (simp only [World.size_alloc, World.size_setCell]; omega) | omega) _ | refine Below.alloc ?_ (by first | exact Nat.le_refl _ | exact Nat.le_add_right _ _ | (simp only [World.size_alloc]; omega) | (simp only [World.size_setCell]; omega) | (simp only [World.size_alloc, World.size_setCell]; omega) | omega) _ | refine Below.drew ?_))⟩
  · rw [decide_eq_false h]
    have h1 : decide (k + 1 ≤ 99) = false := decide_eq_false (by omega)
    have h2 : decide (r ≤ 99) = true := decide_eq_true hr
    go_enter Try.func51, Try.ntmps51
    go_wp2_with fail
    go_big_region
    go_wp2_with fail
    exact bodyPost_ret (v := .tuple #[.agg #[.string t, .int .i64 r, .int .i64 (k + 1)], .bool false]) (by simp [results, Try.results51, go_sem]) rfl ⟨rfl, (by repeat (first | exact HB.out | exact Below.refl _ _ | refine Below.setCell ?_ (by first | exact Nat.le_refl _ | exact Nat.le_add_right _ _ | (simp only [World.size_alloc]; omega) | (simp only [World.size_setCell]; omega) | (simp only [World.size_alloc, World.size_setCell]; omega) | omega) _ | refine Below.alloc ?_ (by first | exact Nat.le_refl _ | exact Nat.le_add_right _ _ | (simp only [World.size_alloc]; omega) | (simp only [World.size_setCell]; omega) | (simp only [World.size_alloc, World.size_setCell]; omega) | omega) _ | refine Below.drew ?_))⟩

set_option maxHeartbeats 2000000 in
theorem pipeJoin_true (t : ByteArray) (r k : Int) (ht : t.size ≤ maxLen) :
    Calls Try.prog 30 #[.agg #[.string t, .int .i64 r, .int .i64 k], .bool true] w fun e w' => e = .returned (.tuple #[.agg #[.string (joiR t r k true).1.1, .int .i64 (joiR t r k true).1.2.1, .int .i64 (joiR t r k true).1.2.2], .bool (joiR t r k true).2]) ∧ Below w.heap.size w w' := by
  have HT := Lib.hid ht
  have hS : joiR t r k true = if (piB t r k && !decide (r + k = 0)) = true then (if r < 99 then ((t, r + 1, k), true) else (piZ, false)) else (piZ, false) := rfl
  clear ht
  by_cases hc : piB t r k = true
  · have HC := Lib.hid hc
    obtain ⟨h1, h2⟩ := pi_in hc
    by_cases h0 : r + k = 0
    · have e0 : (r + k == 0) = true := by rw [beq_iff_eq]; exact h0
      rw [hc, decide_eq_true h0, if_neg (by decide)] at hS
      rw [hS]
      clear hS hc h0
      have X0 := Lib.hid ((Box.new w #[.string t, .int .i64 r, .int .i64 k] 24).alloc (.cells #[.string ⟨#[]⟩, .int .i64 0, .int .i64 0] 24))
      have Y0 := Lib.hid (Box.new (w.alloc (.cells #[.string t, .int .i64 r, .int .i64 k] 24)) #[.string ⟨#[]⟩, .int .i64 0, .int .i64 0] 24)
      simp only [World.size_alloc] at Y0
      have HB0 := Lib.hid (show Below w.heap.size w ((w.alloc (.cells #[.string t, .int .i64 r, .int .i64 k] 24)).alloc (.cells #[.string ⟨#[]⟩, .int .i64 0, .int .i64 0] 24)) from ((Below.refl _ _).alloc (Nat.le_refl _) _).alloc (by simp only [World.size_alloc]; omega) _)
      go_enter Try.func30, Try.ntmps30
      go_wp2_with fail
      refine (pipeOk_any t r k HT.out).mono ?_
      rintro e w1 ⟨rfl, hb1⟩
      have HB := Lib.hid (HB0.out.trans (hb1.mono HB0.out.size))
      have X1 := Lib.hid (X0.out.below hb1 X0.out.lt)
      have Y1 := Lib.hid (Y0.out.below hb1 Y0.out.lt)
      clear hb1
      have x0 := X1.out.cell 0
      have x1 := X1.out.cell 1
      have x2 := X1.out.cell 2
      have xl := X1.out.lt
      have y0 := Y1.out.cell 0
      have y1 := Y1.out.cell 1
      have y2 := Y1.out.cell 2
      have f0 := Y1.out.frz 0
      have f1 := Y1.out.frz 1
      have f2 := Y1.out.frz 2
      have yl := Y1.out.lt
      simp at x0 x1 x2 y0 y1 y2
      rw [HC.out]
      go_wp2_with fail
      exact bodyPost_ret (v := .tuple #[.agg #[.string (⟨#[]⟩), .int .i64 (0), .int .i64 (0)], .bool false]) (by simp [results, Try.results30, go_sem, y0, y1, y2]) rfl ⟨rfl, (by repeat (first | exact HB.out | exact Below.refl _ _ | refine Below.setCell ?_ (by first | exact Nat.le_refl _ | exact Nat.le_add_right _ _ | (simp only [World.size_alloc]; omega) | (simp only [World.size_setCell]; omega) | (simp only [World.size_alloc, World.size_setCell]; omega) | omega) _ | refine Below.alloc ?_ (by first | exact Nat.le_refl _ | exact Nat.le_add_right _ _ | (simp only [World.size_alloc]; omega) | (simp only [World.size_setCell]; omega) | (simp only [World.size_alloc, World.size_setCell]; omega) | omega) _ | refine Below.drew ?_))⟩
    have e0 : (r + k == 0) = false := by rw [beq_eq_false_iff_ne]; exact h0
    rw [hc, decide_eq_false h0, if_pos (by rfl)] at hS
    by_cases h3 : r < 99
    · have HD := Lib.hid (decide_eq_true h3)
      rw [if_pos h3] at hS
      rw [hS]
      clear hS hc h0 h3
      have X0 := Lib.hid ((Box.new w #[.string t, .int .i64 r, .int .i64 k] 24).alloc (.cells #[.string ⟨#[]⟩, .int .i64 0, .int .i64 0] 24))
      have Y0 := Lib.hid (Box.new (w.alloc (.cells #[.string t, .int .i64 r, .int .i64 k] 24)) #[.string ⟨#[]⟩, .int .i64 0, .int .i64 0] 24)
      simp only [World.size_alloc] at Y0
      have HB0 := Lib.hid (show Below w.heap.size w ((w.alloc (.cells #[.string t, .int .i64 r, .int .i64 k] 24)).alloc (.cells #[.string ⟨#[]⟩, .int .i64 0, .int .i64 0] 24)) from ((Below.refl _ _).alloc (Nat.le_refl _) _).alloc (by simp only [World.size_alloc]; omega) _)
      go_enter Try.func30, Try.ntmps30
      go_wp2_with fail
      refine (pipeOk_any t r k HT.out).mono ?_
      rintro e w1 ⟨rfl, hb1⟩
      have HB := Lib.hid (HB0.out.trans (hb1.mono HB0.out.size))
      have X1 := Lib.hid (X0.out.below hb1 X0.out.lt)
      have Y1 := Lib.hid (Y0.out.below hb1 Y0.out.lt)
      clear hb1
      have x0 := X1.out.cell 0
      have x1 := X1.out.cell 1
      have x2 := X1.out.cell 2
      have xl := X1.out.lt
      have y0 := Y1.out.cell 0
      have y1 := Y1.out.cell 1
      have y2 := Y1.out.cell 2
      have f0 := Y1.out.frz 0
      have f1 := Y1.out.frz 1
      have f2 := Y1.out.frz 2
      have yl := Y1.out.lt
      simp at x0 x1 x2 y0 y1 y2
      rw [HC.out]
      go_wp2_with fail
      refine (l9Join_true t r k h1.1 h1.2 h2.1 h2.2).mono ?_
      rintro e w2 ⟨rfl, hb2⟩
      have HB2 := Lib.hid (HB.out.trans (hb2.mono HB.out.size))
      have X2 := Lib.hid (X1.out.below hb2 X1.out.lt)
      have Y2 := Lib.hid (Y1.out.below hb2 Y1.out.lt)
      clear x0 x1 x2 xl y0 y1 y2 f0 f1 f2 yl
      clear hb2 HB
      have HB := HB2
      have x0 := X2.out.cell 0
      have x1 := X2.out.cell 1
      have x2 := X2.out.cell 2
      have xl := X2.out.lt
      have y0 := Y2.out.cell 0
      have y1 := Y2.out.cell 1
      have y2 := Y2.out.cell 2
      have f0 := Y2.out.frz 0
      have f1 := Y2.out.frz 1
      have f2 := Y2.out.frz 2
      have yl := Y2.out.lt
      simp at x0 x1 x2 y0 y1 y2
      rw [HD.out]
      go_wp2_with fail
      exact bodyPost_ret (v := .tuple #[.agg #[.string (t), .int .i64 (r + 1), .int .i64 (k)], .bool true]) (by simp [results, Try.results30, go_sem, y0, y1, y2, yl]) rfl ⟨rfl, (by repeat (first | exact HB.out | exact Below.refl _ _ | refine Below.setCell ?_ (by first | exact Nat.le_refl _ | exact Nat.le_add_right _ _ | (simp only [World.size_alloc]; omega) | (simp only [World.size_setCell]; omega) | (simp only [World.size_alloc, World.size_setCell]; omega) | omega) _ | refine Below.alloc ?_ (by first | exact Nat.le_refl _ | exact Nat.le_add_right _ _ | (simp only [World.size_alloc]; omega) | (simp only [World.size_setCell]; omega) | (simp only [World.size_alloc, World.size_setCell]; omega) | omega) _ | refine Below.drew ?_))⟩
    · have HD := Lib.hid (decide_eq_false h3)
      rw [if_neg h3] at hS
      rw [hS]
      clear hS hc h0 h3
      have X0 := Lib.hid ((Box.new w #[.string t, .int .i64 r, .int .i64 k] 24).alloc (.cells #[.string ⟨#[]⟩, .int .i64 0, .int .i64 0] 24))
      have Y0 := Lib.hid (Box.new (w.alloc (.cells #[.string t, .int .i64 r, .int .i64 k] 24)) #[.string ⟨#[]⟩, .int .i64 0, .int .i64 0] 24)
      simp only [World.size_alloc] at Y0
      have HB0 := Lib.hid (show Below w.heap.size w ((w.alloc (.cells #[.string t, .int .i64 r, .int .i64 k] 24)).alloc (.cells #[.string ⟨#[]⟩, .int .i64 0, .int .i64 0] 24)) from ((Below.refl _ _).alloc (Nat.le_refl _) _).alloc (by simp only [World.size_alloc]; omega) _)
      go_enter Try.func30, Try.ntmps30
      go_wp2_with fail
      refine (pipeOk_any t r k HT.out).mono ?_
      rintro e w1 ⟨rfl, hb1⟩
      have HB := Lib.hid (HB0.out.trans (hb1.mono HB0.out.size))
      have X1 := Lib.hid (X0.out.below hb1 X0.out.lt)
      have Y1 := Lib.hid (Y0.out.below hb1 Y0.out.lt)
      clear hb1
      have x0 := X1.out.cell 0
      have x1 := X1.out.cell 1
      have x2 := X1.out.cell 2
      have xl := X1.out.lt
      have y0 := Y1.out.cell 0
      have y1 := Y1.out.cell 1
      have y2 := Y1.out.cell 2
      have f0 := Y1.out.frz 0
      have f1 := Y1.out.frz 1
      have f2 := Y1.out.frz 2
      have yl := Y1.out.lt
      simp at x0 x1 x2 y0 y1 y2
      rw [HC.out]
      go_wp2_with fail
      refine (l9Join_true t r k h1.1 h1.2 h2.1 h2.2).mono ?_
      rintro e w2 ⟨rfl, hb2⟩
      have HB2 := Lib.hid (HB.out.trans (hb2.mono HB.out.size))
      have X2 := Lib.hid (X1.out.below hb2 X1.out.lt)
      have Y2 := Lib.hid (Y1.out.below hb2 Y1.out.lt)
      clear x0 x1 x2 xl y0 y1 y2 f0 f1 f2 yl
      clear hb2 HB
      have HB := HB2
      have x0 := X2.out.cell 0
      have x1 := X2.out.cell 1
      have x2 := X2.out.cell 2
      have xl := X2.out.lt
      have y0 := Y2.out.cell 0
      have y1 := Y2.out.cell 1
      have y2 := Y2.out.cell 2
      have f0 := Y2.out.frz 0
      have f1 := Y2.out.frz 1
      have f2 := Y2.out.frz 2
      have yl := Y2.out.lt
      simp at x0 x1 x2 y0 y1 y2
      rw [HD.out]
      go_wp2_with fail
      exact bodyPost_ret (v := .tuple #[.agg #[.string (⟨#[]⟩), .int .i64 (0), .int .i64 (0)], .bool false]) (by simp [results, Try.results30, go_sem, y0, y1, y2, yl]) rfl ⟨rfl, (by repeat (first | exact HB.out | exact Below.refl _ _ | refine Below.setCell ?_ (by first | exact Nat.le_refl _ | exact Nat.le_add_right _ _ | (simp only [World.size_alloc]; omega) | (simp only [World.size_setCell]; omega) | (simp only [World.size_alloc, World.size_setCell]; omega) | omega) _ | refine Below.alloc ?_ (by first | exact Nat.le_refl _ | exact Nat.le_add_right _ _ | (simp only [World.size_alloc]; omega) | (simp only [World.size_setCell]; omega) | (simp only [World.size_alloc, World.size_setCell]; omega) | omega) _ | refine Below.drew ?_))⟩
  · have hc' : piB t r k = false := by simpa using hc
    rw [hc', Bool.false_and, if_neg Bool.false_ne_true] at hS
    rw [hS]
    clear hS hc
    have HC := Lib.hid hc'
    have X0 := Lib.hid ((Box.new w #[.string t, .int .i64 r, .int .i64 k] 24).alloc (.cells #[.string ⟨#[]⟩, .int .i64 0, .int .i64 0] 24))
    have Y0 := Lib.hid (Box.new (w.alloc (.cells #[.string t, .int .i64 r, .int .i64 k] 24)) #[.string ⟨#[]⟩, .int .i64 0, .int .i64 0] 24)
    simp only [World.size_alloc] at Y0
    have HB0 := Lib.hid (show Below w.heap.size w ((w.alloc (.cells #[.string t, .int .i64 r, .int .i64 k] 24)).alloc (.cells #[.string ⟨#[]⟩, .int .i64 0, .int .i64 0] 24)) from ((Below.refl _ _).alloc (Nat.le_refl _) _).alloc (by simp only [World.size_alloc]; omega) _)
    go_enter Try.func30, Try.ntmps30
    go_wp2_with fail
    refine (pipeOk_any t r k HT.out).mono ?_
    rintro e w1 ⟨rfl, hb1⟩
    have HB := Lib.hid (HB0.out.trans (hb1.mono HB0.out.size))
    have X1 := Lib.hid (X0.out.below hb1 X0.out.lt)
    have Y1 := Lib.hid (Y0.out.below hb1 Y0.out.lt)
    clear hb1
    have x0 := X1.out.cell 0
    have x1 := X1.out.cell 1
    have x2 := X1.out.cell 2
    have xl := X1.out.lt
    have y0 := Y1.out.cell 0
    have y1 := Y1.out.cell 1
    have y2 := Y1.out.cell 2
    have f0 := Y1.out.frz 0
    have f1 := Y1.out.frz 1
    have f2 := Y1.out.frz 2
    have yl := Y1.out.lt
    simp at x0 x1 x2 y0 y1 y2
    rw [HC.out]
    go_wp2_with fail
    exact bodyPost_ret (v := .tuple #[.agg #[.string (⟨#[]⟩), .int .i64 (0), .int .i64 (0)], .bool false]) (by simp [results, Try.results30, go_sem, y0, y1, y2]) rfl ⟨rfl, (by repeat (first | exact HB.out | exact Below.refl _ _ | refine Below.setCell ?_ (by first | exact Nat.le_refl _ | exact Nat.le_add_right _ _ | (simp only [World.size_alloc]; omega) | (simp only [World.size_setCell]; omega) | (simp only [World.size_alloc, World.size_setCell]; omega) | omega) _ | refine Below.alloc ?_ (by first | exact Nat.le_refl _ | exact Nat.le_add_right _ _ | (simp only [World.size_alloc]; omega) | (simp only [World.size_setCell]; omega) | (simp only [World.size_alloc, World.size_setCell]; omega) | omega) _ | refine Below.drew ?_))⟩

set_option maxHeartbeats 2000000 in
theorem pipeJoin_false (t : ByteArray) (r k : Int) (ht : t.size ≤ maxLen) :
    Calls Try.prog 30 #[.agg #[.string t, .int .i64 r, .int .i64 k], .bool false] w fun e w' => e = .returned (.tuple #[.agg #[.string (joiR t r k false).1.1, .int .i64 (joiR t r k false).1.2.1, .int .i64 (joiR t r k false).1.2.2], .bool (joiR t r k false).2]) ∧ Below w.heap.size w w' := by
  have HT := Lib.hid ht
  have hS : joiR t r k false = if (piB t r k && !decide (r + k = 0)) = true then (if k < 99 then ((t, r, k + 1), true) else (piZ, false)) else (piZ, false) := rfl
  clear ht
  by_cases hc : piB t r k = true
  · have HC := Lib.hid hc
    obtain ⟨h1, h2⟩ := pi_in hc
    by_cases h0 : r + k = 0
    · have e0 : (r + k == 0) = true := by rw [beq_iff_eq]; exact h0
      rw [hc, decide_eq_true h0, if_neg (by decide)] at hS
      rw [hS]
      clear hS hc h0
      have X0 := Lib.hid ((Box.new w #[.string t, .int .i64 r, .int .i64 k] 24).alloc (.cells #[.string ⟨#[]⟩, .int .i64 0, .int .i64 0] 24))
      have Y0 := Lib.hid (Box.new (w.alloc (.cells #[.string t, .int .i64 r, .int .i64 k] 24)) #[.string ⟨#[]⟩, .int .i64 0, .int .i64 0] 24)
      simp only [World.size_alloc] at Y0
      have HB0 := Lib.hid (show Below w.heap.size w ((w.alloc (.cells #[.string t, .int .i64 r, .int .i64 k] 24)).alloc (.cells #[.string ⟨#[]⟩, .int .i64 0, .int .i64 0] 24)) from ((Below.refl _ _).alloc (Nat.le_refl _) _).alloc (by simp only [World.size_alloc]; omega) _)
      go_enter Try.func30, Try.ntmps30
      go_wp2_with fail
      refine (pipeOk_any t r k HT.out).mono ?_
      rintro e w1 ⟨rfl, hb1⟩
      have HB := Lib.hid (HB0.out.trans (hb1.mono HB0.out.size))
      have X1 := Lib.hid (X0.out.below hb1 X0.out.lt)
      have Y1 := Lib.hid (Y0.out.below hb1 Y0.out.lt)
      clear hb1
      have x0 := X1.out.cell 0
      have x1 := X1.out.cell 1
      have x2 := X1.out.cell 2
      have xl := X1.out.lt
      have y0 := Y1.out.cell 0
      have y1 := Y1.out.cell 1
      have y2 := Y1.out.cell 2
      have f0 := Y1.out.frz 0
      have f1 := Y1.out.frz 1
      have f2 := Y1.out.frz 2
      have yl := Y1.out.lt
      simp at x0 x1 x2 y0 y1 y2
      rw [HC.out]
      go_wp2_with fail
      exact bodyPost_ret (v := .tuple #[.agg #[.string (⟨#[]⟩), .int .i64 (0), .int .i64 (0)], .bool false]) (by simp [results, Try.results30, go_sem, y0, y1, y2]) rfl ⟨rfl, (by repeat (first | exact HB.out | exact Below.refl _ _ | refine Below.setCell ?_ (by first | exact Nat.le_refl _ | exact Nat.le_add_right _ _ | (simp only [World.size_alloc]; omega) | (simp only [World.size_setCell]; omega) | (simp only [World.size_alloc, World.size_setCell]; omega) | omega) _ | refine Below.alloc ?_ (by first | exact Nat.le_refl _ | exact Nat.le_add_right _ _ | (simp only [World.size_alloc]; omega) | (simp only [World.size_setCell]; omega) | (simp only [World.size_alloc, World.size_setCell]; omega) | omega) _ | refine Below.drew ?_))⟩
    have e0 : (r + k == 0) = false := by rw [beq_eq_false_iff_ne]; exact h0
    rw [hc, decide_eq_false h0, if_pos (by rfl)] at hS
    by_cases h3 : k < 99
    · have HD := Lib.hid (decide_eq_true h3)
      rw [if_pos h3] at hS
      rw [hS]
      clear hS hc h0 h3
      have X0 := Lib.hid ((Box.new w #[.string t, .int .i64 r, .int .i64 k] 24).alloc (.cells #[.string ⟨#[]⟩, .int .i64 0, .int .i64 0] 24))
      have Y0 := Lib.hid (Box.new (w.alloc (.cells #[.string t, .int .i64 r, .int .i64 k] 24)) #[.string ⟨#[]⟩, .int .i64 0, .int .i64 0] 24)
      simp only [World.size_alloc] at Y0
      have HB0 := Lib.hid (show Below w.heap.size w ((w.alloc (.cells #[.string t, .int .i64 r, .int .i64 k] 24)).alloc (.cells #[.string ⟨#[]⟩, .int .i64 0, .int .i64 0] 24)) from ((Below.refl _ _).alloc (Nat.le_refl _) _).alloc (by simp only [World.size_alloc]; omega) _)
      go_enter Try.func30, Try.ntmps30
      go_wp2_with fail
      refine (pipeOk_any t r k HT.out).mono ?_
      rintro e w1 ⟨rfl, hb1⟩
      have HB := Lib.hid (HB0.out.trans (hb1.mono HB0.out.size))
      have X1 := Lib.hid (X0.out.below hb1 X0.out.lt)
      have Y1 := Lib.hid (Y0.out.below hb1 Y0.out.lt)
      clear hb1
      have x0 := X1.out.cell 0
      have x1 := X1.out.cell 1
      have x2 := X1.out.cell 2
      have xl := X1.out.lt
      have y0 := Y1.out.cell 0
      have y1 := Y1.out.cell 1
      have y2 := Y1.out.cell 2
      have f0 := Y1.out.frz 0
      have f1 := Y1.out.frz 1
      have f2 := Y1.out.frz 2
      have yl := Y1.out.lt
      simp at x0 x1 x2 y0 y1 y2
      rw [HC.out]
      go_wp2_with fail
      refine (l9Join_false t r k h1.1 h1.2 h2.1 h2.2).mono ?_
      rintro e w2 ⟨rfl, hb2⟩
      have HB2 := Lib.hid (HB.out.trans (hb2.mono HB.out.size))
      have X2 := Lib.hid (X1.out.below hb2 X1.out.lt)
      have Y2 := Lib.hid (Y1.out.below hb2 Y1.out.lt)
      clear x0 x1 x2 xl y0 y1 y2 f0 f1 f2 yl
      clear hb2 HB
      have HB := HB2
      have x0 := X2.out.cell 0
      have x1 := X2.out.cell 1
      have x2 := X2.out.cell 2
      have xl := X2.out.lt
      have y0 := Y2.out.cell 0
      have y1 := Y2.out.cell 1
      have y2 := Y2.out.cell 2
      have f0 := Y2.out.frz 0
      have f1 := Y2.out.frz 1
      have f2 := Y2.out.frz 2
      have yl := Y2.out.lt
      simp at x0 x1 x2 y0 y1 y2
      rw [HD.out]
      go_wp2_with fail
      exact bodyPost_ret (v := .tuple #[.agg #[.string (t), .int .i64 (r), .int .i64 (k + 1)], .bool true]) (by simp [results, Try.results30, go_sem, y0, y1, y2, yl]) rfl ⟨rfl, (by repeat (first | exact HB.out | exact Below.refl _ _ | refine Below.setCell ?_ (by first | exact Nat.le_refl _ | exact Nat.le_add_right _ _ | (simp only [World.size_alloc]; omega) | (simp only [World.size_setCell]; omega) | (simp only [World.size_alloc, World.size_setCell]; omega) | omega) _ | refine Below.alloc ?_ (by first | exact Nat.le_refl _ | exact Nat.le_add_right _ _ | (simp only [World.size_alloc]; omega) | (simp only [World.size_setCell]; omega) | (simp only [World.size_alloc, World.size_setCell]; omega) | omega) _ | refine Below.drew ?_))⟩
    · have HD := Lib.hid (decide_eq_false h3)
      rw [if_neg h3] at hS
      rw [hS]
      clear hS hc h0 h3
      have X0 := Lib.hid ((Box.new w #[.string t, .int .i64 r, .int .i64 k] 24).alloc (.cells #[.string ⟨#[]⟩, .int .i64 0, .int .i64 0] 24))
      have Y0 := Lib.hid (Box.new (w.alloc (.cells #[.string t, .int .i64 r, .int .i64 k] 24)) #[.string ⟨#[]⟩, .int .i64 0, .int .i64 0] 24)
      simp only [World.size_alloc] at Y0
      have HB0 := Lib.hid (show Below w.heap.size w ((w.alloc (.cells #[.string t, .int .i64 r, .int .i64 k] 24)).alloc (.cells #[.string ⟨#[]⟩, .int .i64 0, .int .i64 0] 24)) from ((Below.refl _ _).alloc (Nat.le_refl _) _).alloc (by simp only [World.size_alloc]; omega) _)
      go_enter Try.func30, Try.ntmps30
      go_wp2_with fail
      refine (pipeOk_any t r k HT.out).mono ?_
      rintro e w1 ⟨rfl, hb1⟩
      have HB := Lib.hid (HB0.out.trans (hb1.mono HB0.out.size))
      have X1 := Lib.hid (X0.out.below hb1 X0.out.lt)
      have Y1 := Lib.hid (Y0.out.below hb1 Y0.out.lt)
      clear hb1
      have x0 := X1.out.cell 0
      have x1 := X1.out.cell 1
      have x2 := X1.out.cell 2
      have xl := X1.out.lt
      have y0 := Y1.out.cell 0
      have y1 := Y1.out.cell 1
      have y2 := Y1.out.cell 2
      have f0 := Y1.out.frz 0
      have f1 := Y1.out.frz 1
      have f2 := Y1.out.frz 2
      have yl := Y1.out.lt
      simp at x0 x1 x2 y0 y1 y2
      rw [HC.out]
      go_wp2_with fail
      refine (l9Join_false t r k h1.1 h1.2 h2.1 h2.2).mono ?_
      rintro e w2 ⟨rfl, hb2⟩
      have HB2 := Lib.hid (HB.out.trans (hb2.mono HB.out.size))
      have X2 := Lib.hid (X1.out.below hb2 X1.out.lt)
      have Y2 := Lib.hid (Y1.out.below hb2 Y1.out.lt)
      clear x0 x1 x2 xl y0 y1 y2 f0 f1 f2 yl
      clear hb2 HB
      have HB := HB2
      have x0 := X2.out.cell 0
      have x1 := X2.out.cell 1
      have x2 := X2.out.cell 2
      have xl := X2.out.lt
      have y0 := Y2.out.cell 0
      have y1 := Y2.out.cell 1
      have y2 := Y2.out.cell 2
      have f0 := Y2.out.frz 0
      have f1 := Y2.out.frz 1
      have f2 := Y2.out.frz 2
      have yl := Y2.out.lt
      simp at x0 x1 x2 y0 y1 y2
      rw [HD.out]
      go_wp2_with fail
      exact bodyPost_ret (v := .tuple #[.agg #[.string (⟨#[]⟩), .int .i64 (0), .int .i64 (0)], .bool false]) (by simp [results, Try.results30, go_sem, y0, y1, y2, yl]) rfl ⟨rfl, (by repeat (first | exact HB.out | exact Below.refl _ _ | refine Below.setCell ?_ (by first | exact Nat.le_refl _ | exact Nat.le_add_right _ _ | (simp only [World.size_alloc]; omega) | (simp only [World.size_setCell]; omega) | (simp only [World.size_alloc, World.size_setCell]; omega) | omega) _ | refine Below.alloc ?_ (by first | exact Nat.le_refl _ | exact Nat.le_add_right _ _ | (simp only [World.size_alloc]; omega) | (simp only [World.size_setCell]; omega) | (simp only [World.size_alloc, World.size_setCell]; omega) | omega) _ | refine Below.drew ?_))⟩
  · have hc' : piB t r k = false := by simpa using hc
    rw [hc', Bool.false_and, if_neg Bool.false_ne_true] at hS
    rw [hS]
    clear hS hc
    have HC := Lib.hid hc'
    have X0 := Lib.hid ((Box.new w #[.string t, .int .i64 r, .int .i64 k] 24).alloc (.cells #[.string ⟨#[]⟩, .int .i64 0, .int .i64 0] 24))
    have Y0 := Lib.hid (Box.new (w.alloc (.cells #[.string t, .int .i64 r, .int .i64 k] 24)) #[.string ⟨#[]⟩, .int .i64 0, .int .i64 0] 24)
    simp only [World.size_alloc] at Y0
    have HB0 := Lib.hid (show Below w.heap.size w ((w.alloc (.cells #[.string t, .int .i64 r, .int .i64 k] 24)).alloc (.cells #[.string ⟨#[]⟩, .int .i64 0, .int .i64 0] 24)) from ((Below.refl _ _).alloc (Nat.le_refl _) _).alloc (by simp only [World.size_alloc]; omega) _)
    go_enter Try.func30, Try.ntmps30
    go_wp2_with fail
    refine (pipeOk_any t r k HT.out).mono ?_
    rintro e w1 ⟨rfl, hb1⟩
    have HB := Lib.hid (HB0.out.trans (hb1.mono HB0.out.size))
    have X1 := Lib.hid (X0.out.below hb1 X0.out.lt)
    have Y1 := Lib.hid (Y0.out.below hb1 Y0.out.lt)
    clear hb1
    have x0 := X1.out.cell 0
    have x1 := X1.out.cell 1
    have x2 := X1.out.cell 2
    have xl := X1.out.lt
    have y0 := Y1.out.cell 0
    have y1 := Y1.out.cell 1
    have y2 := Y1.out.cell 2
    have f0 := Y1.out.frz 0
    have f1 := Y1.out.frz 1
    have f2 := Y1.out.frz 2
    have yl := Y1.out.lt
    simp at x0 x1 x2 y0 y1 y2
    rw [HC.out]
    go_wp2_with fail
    exact bodyPost_ret (v := .tuple #[.agg #[.string (⟨#[]⟩), .int .i64 (0), .int .i64 (0)], .bool false]) (by simp [results, Try.results30, go_sem, y0, y1, y2]) rfl ⟨rfl, (by repeat (first | exact HB.out | exact Below.refl _ _ | refine Below.setCell ?_ (by first | exact Nat.le_refl _ | exact Nat.le_add_right _ _ | (simp only [World.size_alloc]; omega) | (simp only [World.size_setCell]; omega) | (simp only [World.size_alloc, World.size_setCell]; omega) | omega) _ | refine Below.alloc ?_ (by first | exact Nat.le_refl _ | exact Nat.le_add_right _ _ | (simp only [World.size_alloc]; omega) | (simp only [World.size_setCell]; omega) | (simp only [World.size_alloc, World.size_setCell]; omega) | omega) _ | refine Below.drew ?_))⟩

theorem pipeJoin_any : IJoi 30 := by
  intro w t r k b ht
  cases b
  · exact pipeJoin_false t r k ht
  · exact pipeJoin_true t r k ht
end
end Go.Proofs.Ytjjkkfemhfhciaa
