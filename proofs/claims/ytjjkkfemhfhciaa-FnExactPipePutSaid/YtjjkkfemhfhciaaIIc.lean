/-
  The program's PipeJoin and PipeLeave.
-/
import Derived.Test.YtjjkkfemhfhciaaIIa
namespace Go.Proofs.Ytjjkkfemhfhciaa
open Go.RowKit

section
variable {w : World}
set_option maxHeartbeats 2000000 in
theorem pipeJoin_trueI (t : ByteArray) (r k : Int) (ht : t.size ≤ maxLen) :
    Calls Try.prog 21 #[.agg #[.string t, .int .i64 r, .int .i64 k], .bool true] w fun e w' => e = .returned (.tuple #[.agg #[.string (joiR t r k true).1.1, .int .i64 (joiR t r k true).1.2.1, .int .i64 (joiR t r k true).1.2.2], .bool (joiR t r k true).2]) ∧ Below w.heap.size w w' := by
  have HT := Lib.hid ht
  have hS : joiR t r k true = if (piB t r k && !decide (r + k = 0)) = true then (if r < 99 then ((t, r + 1, k), true) else (piZ, false)) else (piZ, false) := rfl
  clear ht
  have X0 := Lib.hid ((Box.new w #[.string t, .int .i64 r, .int .i64 k] 24).alloc (.cells #[.string ⟨#[]⟩, .int .i64 0, .int .i64 0] 24))
  have Y0 := Lib.hid (Box.new (w.alloc (.cells #[.string t, .int .i64 r, .int .i64 k] 24)) #[.string ⟨#[]⟩, .int .i64 0, .int .i64 0] 24)
  simp only [World.size_alloc] at Y0
  have HB0 := Lib.hid (show Below w.heap.size w ((w.alloc (.cells #[.string t, .int .i64 r, .int .i64 k] 24)).alloc (.cells #[.string ⟨#[]⟩, .int .i64 0, .int .i64 0] 24)) from ((Below.refl _ _).alloc (Nat.le_refl _) _).alloc (by simp only [World.size_alloc]; omega) _)
  go_enter Try.func21, Try.ntmps21
  go_wp2_with fail
  refine (sideI _ X0.out true).mono ?_
  rintro e w1 ⟨rfl, rfl⟩
  rw [if_pos rfl]
  have x0 := X0.out.cell 0
  have x1 := X0.out.cell 1
  have x2 := X0.out.cell 2
  have xf0 := X0.out.frz 0
  have xf1 := X0.out.frz 1
  have xf2 := X0.out.frz 2
  have xl := X0.out.lt
  have y0 := Y0.out.cell 0
  have y1 := Y0.out.cell 1
  have y2 := Y0.out.cell 2
  have yf0 := Y0.out.frz 0
  have yf1 := Y0.out.frz 1
  have yf2 := Y0.out.frz 2
  have yl := Y0.out.lt
  simp at x0 x1 x2 y0 y1 y2
  go_wp2_with fail
  clear x0 x1 x2 xf0 xf1 xf2 xl y0 y1 y2 yf0 yf1 yf2 yl
  refine (pipeOkI t r k HT.out).mono ?_
  rintro e w1 ⟨rfl, hb1⟩
  have HB1 := Lib.hid (HB0.out.trans (hb1.mono HB0.out.size))
  have X1 := Lib.hid (X0.out.below hb1 X0.out.lt)
  have Y1 := Lib.hid (Y0.out.below hb1 Y0.out.lt)
  clear hb1
  have x0 := X1.out.cell 0
  have x1 := X1.out.cell 1
  have x2 := X1.out.cell 2
  have xf0 := X1.out.frz 0
  have xf1 := X1.out.frz 1
  have xf2 := X1.out.frz 2
  have xl := X1.out.lt
  have y0 := Y1.out.cell 0
  have y1 := Y1.out.cell 1
  have y2 := Y1.out.cell 2
  have yf0 := Y1.out.frz 0
  have yf1 := Y1.out.frz 1
  have yf2 := Y1.out.frz 2
  have yl := Y1.out.lt
  simp at x0 x1 x2 y0 y1 y2
  have HB := HB1
  by_cases hc : piB t r k = true
  · obtain ⟨⟨p1, p2⟩, p3, p4⟩ := pi_in hc
    rw [hc] at hS ⊢
    clear hc
    clear HB
    go_wp2_with fail
    refine (goneI t r k _).mono ?_
    rintro e w2 ⟨rfl, hb2⟩
    clear x0 x1 x2 xf0 xf1 xf2 xl y0 y1 y2 yf0 yf1 yf2 yl
    have HB2 := Lib.hid (HB1.out.trans (hb2.mono HB1.out.size))
    have X2 := Lib.hid (X1.out.below hb2 X1.out.lt)
    have Y2 := Lib.hid (Y1.out.below hb2 Y1.out.lt)
    clear hb2
    have x0 := X2.out.cell 0
    have x1 := X2.out.cell 1
    have x2 := X2.out.cell 2
    have xf0 := X2.out.frz 0
    have xf1 := X2.out.frz 1
    have xf2 := X2.out.frz 2
    have xl := X2.out.lt
    have y0 := Y2.out.cell 0
    have y1 := Y2.out.cell 1
    have y2 := Y2.out.cell 2
    have yf0 := Y2.out.frz 0
    have yf1 := Y2.out.frz 1
    have yf2 := Y2.out.frz 2
    have yl := Y2.out.lt
    simp at x0 x1 x2 y0 y1 y2
    have HB := HB2
    by_cases h0 : r + k = 0
    · obtain rfl : r = 0 := by omega
      obtain rfl : k = 0 := by omega
      rw [decide_eq_true h0, if_neg (by decide)] at hS
      have HS := Lib.hid hS
      clear hS h0
      go_wp2_with fail
      exact bodyPost_ret (v := .tuple #[.agg #[.string (⟨#[]⟩), .int .i64 (0), .int .i64 (0)], .bool false]) (by simp [results, Try.results21, go_sem, y0, y1, y2]) rfl ⟨by simp only [HS.out]; try rfl, (by repeat (first | exact HB.out | exact Below.refl _ _ | refine Below.setCell ?_ (by first | exact Nat.le_refl _ | exact Nat.le_add_right _ _ | (simp only [World.size_alloc]; omega) | (simp only [World.size_setCell]; omega) | (simp only [World.size_alloc, World.size_setCell]; omega) | omega) _ | refine Below.alloc ?_ (by first | exact Nat.le_refl _ | exact Nat.le_add_right _ _ | (simp only [World.size_alloc]; omega) | (simp only [World.size_setCell]; omega) | (simp only [World.size_alloc, World.size_setCell]; omega) | omega) _ | refine Below.drew ?_))⟩
    have hd : (decide (r = 0) && decide (k = 0)) = false := by
      rw [Bool.and_eq_false_iff]
      by_cases h : r = 0
      · exact Or.inr (decide_eq_false (by omega))
      · exact Or.inl (decide_eq_false h)
    rw [decide_eq_false h0, if_pos (by rfl)] at hS
    rw [hd]
    clear h0 hd
    by_cases h1 : r < 99
    · have e1 : (r == 99) = false := by rw [beq_eq_false_iff_ne]; omega
      have l1 : ¬ r = 99 := by omega
      rw [if_pos h1] at hS
      have HS := Lib.hid hS
      clear hS h1
      go_wp2_with fail
      exact bodyPost_ret (v := .tuple #[.agg #[.string (t), .int .i64 (r + 1), .int .i64 (k)], .bool true]) (by simp [results, Try.results21, go_sem, y0, y1, y2]) rfl ⟨by simp only [HS.out]; try rfl, (by repeat (first | exact HB.out | exact Below.refl _ _ | refine Below.setCell ?_ (by first | exact Nat.le_refl _ | exact Nat.le_add_right _ _ | (simp only [World.size_alloc]; omega) | (simp only [World.size_setCell]; omega) | (simp only [World.size_alloc, World.size_setCell]; omega) | omega) _ | refine Below.alloc ?_ (by first | exact Nat.le_refl _ | exact Nat.le_add_right _ _ | (simp only [World.size_alloc]; omega) | (simp only [World.size_setCell]; omega) | (simp only [World.size_alloc, World.size_setCell]; omega) | omega) _ | refine Below.drew ?_))⟩
    · obtain rfl : r = 99 := by omega
      rw [if_neg h1] at hS
      have HS := Lib.hid hS
      clear hS h1
      go_wp2_with fail
      exact bodyPost_ret (v := .tuple #[.agg #[.string (⟨#[]⟩), .int .i64 (0), .int .i64 (0)], .bool false]) (by simp [results, Try.results21, go_sem, y0, y1, y2]) rfl ⟨by simp only [HS.out]; try rfl, (by repeat (first | exact HB.out | exact Below.refl _ _ | refine Below.setCell ?_ (by first | exact Nat.le_refl _ | exact Nat.le_add_right _ _ | (simp only [World.size_alloc]; omega) | (simp only [World.size_setCell]; omega) | (simp only [World.size_alloc, World.size_setCell]; omega) | omega) _ | refine Below.alloc ?_ (by first | exact Nat.le_refl _ | exact Nat.le_add_right _ _ | (simp only [World.size_alloc]; omega) | (simp only [World.size_setCell]; omega) | (simp only [World.size_alloc, World.size_setCell]; omega) | omega) _ | refine Below.drew ?_))⟩
  · have hc' : piB t r k = false := by simpa using hc
    rw [hc', Bool.false_and, if_neg Bool.false_ne_true] at hS
    have HS := Lib.hid hS
    rw [hc']
    clear hS hc hc'
    go_wp2_with fail
    exact bodyPost_ret (v := .tuple #[.agg #[.string (⟨#[]⟩), .int .i64 (0), .int .i64 (0)], .bool false]) (by simp [results, Try.results21, go_sem, y0, y1, y2]) rfl ⟨by simp only [HS.out]; try rfl, (by repeat (first | exact HB.out | exact Below.refl _ _ | refine Below.setCell ?_ (by first | exact Nat.le_refl _ | exact Nat.le_add_right _ _ | (simp only [World.size_alloc]; omega) | (simp only [World.size_setCell]; omega) | (simp only [World.size_alloc, World.size_setCell]; omega) | omega) _ | refine Below.alloc ?_ (by first | exact Nat.le_refl _ | exact Nat.le_add_right _ _ | (simp only [World.size_alloc]; omega) | (simp only [World.size_setCell]; omega) | (simp only [World.size_alloc, World.size_setCell]; omega) | omega) _ | refine Below.drew ?_))⟩

set_option maxHeartbeats 2000000 in
theorem pipeJoin_falseI (t : ByteArray) (r k : Int) (ht : t.size ≤ maxLen) :
    Calls Try.prog 21 #[.agg #[.string t, .int .i64 r, .int .i64 k], .bool false] w fun e w' => e = .returned (.tuple #[.agg #[.string (joiR t r k false).1.1, .int .i64 (joiR t r k false).1.2.1, .int .i64 (joiR t r k false).1.2.2], .bool (joiR t r k false).2]) ∧ Below w.heap.size w w' := by
  have HT := Lib.hid ht
  have hS : joiR t r k false = if (piB t r k && !decide (r + k = 0)) = true then (if k < 99 then ((t, r, k + 1), true) else (piZ, false)) else (piZ, false) := rfl
  clear ht
  have X0 := Lib.hid ((Box.new w #[.string t, .int .i64 r, .int .i64 k] 24).alloc (.cells #[.string ⟨#[]⟩, .int .i64 0, .int .i64 0] 24))
  have Y0 := Lib.hid (Box.new (w.alloc (.cells #[.string t, .int .i64 r, .int .i64 k] 24)) #[.string ⟨#[]⟩, .int .i64 0, .int .i64 0] 24)
  simp only [World.size_alloc] at Y0
  have HB0 := Lib.hid (show Below w.heap.size w ((w.alloc (.cells #[.string t, .int .i64 r, .int .i64 k] 24)).alloc (.cells #[.string ⟨#[]⟩, .int .i64 0, .int .i64 0] 24)) from ((Below.refl _ _).alloc (Nat.le_refl _) _).alloc (by simp only [World.size_alloc]; omega) _)
  go_enter Try.func21, Try.ntmps21
  go_wp2_with fail
  refine (sideI _ X0.out false).mono ?_
  rintro e w1 ⟨rfl, rfl⟩
  rw [if_neg Bool.false_ne_true]
  have x0 := X0.out.cell 0
  have x1 := X0.out.cell 1
  have x2 := X0.out.cell 2
  have xf0 := X0.out.frz 0
  have xf1 := X0.out.frz 1
  have xf2 := X0.out.frz 2
  have xl := X0.out.lt
  have y0 := Y0.out.cell 0
  have y1 := Y0.out.cell 1
  have y2 := Y0.out.cell 2
  have yf0 := Y0.out.frz 0
  have yf1 := Y0.out.frz 1
  have yf2 := Y0.out.frz 2
  have yl := Y0.out.lt
  simp at x0 x1 x2 y0 y1 y2
  go_wp2_with fail
  clear x0 x1 x2 xf0 xf1 xf2 xl y0 y1 y2 yf0 yf1 yf2 yl
  refine (pipeOkI t r k HT.out).mono ?_
  rintro e w1 ⟨rfl, hb1⟩
  have HB1 := Lib.hid (HB0.out.trans (hb1.mono HB0.out.size))
  have X1 := Lib.hid (X0.out.below hb1 X0.out.lt)
  have Y1 := Lib.hid (Y0.out.below hb1 Y0.out.lt)
  clear hb1
  have x0 := X1.out.cell 0
  have x1 := X1.out.cell 1
  have x2 := X1.out.cell 2
  have xf0 := X1.out.frz 0
  have xf1 := X1.out.frz 1
  have xf2 := X1.out.frz 2
  have xl := X1.out.lt
  have y0 := Y1.out.cell 0
  have y1 := Y1.out.cell 1
  have y2 := Y1.out.cell 2
  have yf0 := Y1.out.frz 0
  have yf1 := Y1.out.frz 1
  have yf2 := Y1.out.frz 2
  have yl := Y1.out.lt
  simp at x0 x1 x2 y0 y1 y2
  have HB := HB1
  by_cases hc : piB t r k = true
  · obtain ⟨⟨p1, p2⟩, p3, p4⟩ := pi_in hc
    rw [hc] at hS ⊢
    clear hc
    clear HB
    go_wp2_with fail
    refine (goneI t r k _).mono ?_
    rintro e w2 ⟨rfl, hb2⟩
    clear x0 x1 x2 xf0 xf1 xf2 xl y0 y1 y2 yf0 yf1 yf2 yl
    have HB2 := Lib.hid (HB1.out.trans (hb2.mono HB1.out.size))
    have X2 := Lib.hid (X1.out.below hb2 X1.out.lt)
    have Y2 := Lib.hid (Y1.out.below hb2 Y1.out.lt)
    clear hb2
    have x0 := X2.out.cell 0
    have x1 := X2.out.cell 1
    have x2 := X2.out.cell 2
    have xf0 := X2.out.frz 0
    have xf1 := X2.out.frz 1
    have xf2 := X2.out.frz 2
    have xl := X2.out.lt
    have y0 := Y2.out.cell 0
    have y1 := Y2.out.cell 1
    have y2 := Y2.out.cell 2
    have yf0 := Y2.out.frz 0
    have yf1 := Y2.out.frz 1
    have yf2 := Y2.out.frz 2
    have yl := Y2.out.lt
    simp at x0 x1 x2 y0 y1 y2
    have HB := HB2
    by_cases h0 : r + k = 0
    · obtain rfl : r = 0 := by omega
      obtain rfl : k = 0 := by omega
      rw [decide_eq_true h0, if_neg (by decide)] at hS
      have HS := Lib.hid hS
      clear hS h0
      go_wp2_with fail
      exact bodyPost_ret (v := .tuple #[.agg #[.string (⟨#[]⟩), .int .i64 (0), .int .i64 (0)], .bool false]) (by simp [results, Try.results21, go_sem, y0, y1, y2]) rfl ⟨by simp only [HS.out]; try rfl, (by repeat (first | exact HB.out | exact Below.refl _ _ | refine Below.setCell ?_ (by first | exact Nat.le_refl _ | exact Nat.le_add_right _ _ | (simp only [World.size_alloc]; omega) | (simp only [World.size_setCell]; omega) | (simp only [World.size_alloc, World.size_setCell]; omega) | omega) _ | refine Below.alloc ?_ (by first | exact Nat.le_refl _ | exact Nat.le_add_right _ _ | (simp only [World.size_alloc]; omega) | (simp only [World.size_setCell]; omega) | (simp only [World.size_alloc, World.size_setCell]; omega) | omega) _ | refine Below.drew ?_))⟩
    have hd : (decide (r = 0) && decide (k = 0)) = false := by
      rw [Bool.and_eq_false_iff]
      by_cases h : r = 0
      · exact Or.inr (decide_eq_false (by omega))
      · exact Or.inl (decide_eq_false h)
    rw [decide_eq_false h0, if_pos (by rfl)] at hS
    rw [hd]
    clear h0 hd
    by_cases h1 : k < 99
    · have e1 : (k == 99) = false := by rw [beq_eq_false_iff_ne]; omega
      have l1 : ¬ k = 99 := by omega
      rw [if_pos h1] at hS
      have HS := Lib.hid hS
      clear hS h1
      go_wp2_with fail
      exact bodyPost_ret (v := .tuple #[.agg #[.string (t), .int .i64 (r), .int .i64 (k + 1)], .bool true]) (by simp [results, Try.results21, go_sem, y0, y1, y2]) rfl ⟨by simp only [HS.out]; try rfl, (by repeat (first | exact HB.out | exact Below.refl _ _ | refine Below.setCell ?_ (by first | exact Nat.le_refl _ | exact Nat.le_add_right _ _ | (simp only [World.size_alloc]; omega) | (simp only [World.size_setCell]; omega) | (simp only [World.size_alloc, World.size_setCell]; omega) | omega) _ | refine Below.alloc ?_ (by first | exact Nat.le_refl _ | exact Nat.le_add_right _ _ | (simp only [World.size_alloc]; omega) | (simp only [World.size_setCell]; omega) | (simp only [World.size_alloc, World.size_setCell]; omega) | omega) _ | refine Below.drew ?_))⟩
    · obtain rfl : k = 99 := by omega
      rw [if_neg h1] at hS
      have HS := Lib.hid hS
      clear hS h1
      go_wp2_with fail
      exact bodyPost_ret (v := .tuple #[.agg #[.string (⟨#[]⟩), .int .i64 (0), .int .i64 (0)], .bool false]) (by simp [results, Try.results21, go_sem, y0, y1, y2]) rfl ⟨by simp only [HS.out]; try rfl, (by repeat (first | exact HB.out | exact Below.refl _ _ | refine Below.setCell ?_ (by first | exact Nat.le_refl _ | exact Nat.le_add_right _ _ | (simp only [World.size_alloc]; omega) | (simp only [World.size_setCell]; omega) | (simp only [World.size_alloc, World.size_setCell]; omega) | omega) _ | refine Below.alloc ?_ (by first | exact Nat.le_refl _ | exact Nat.le_add_right _ _ | (simp only [World.size_alloc]; omega) | (simp only [World.size_setCell]; omega) | (simp only [World.size_alloc, World.size_setCell]; omega) | omega) _ | refine Below.drew ?_))⟩
  · have hc' : piB t r k = false := by simpa using hc
    rw [hc', Bool.false_and, if_neg Bool.false_ne_true] at hS
    have HS := Lib.hid hS
    rw [hc']
    clear hS hc hc'
    go_wp2_with fail
    exact bodyPost_ret (v := .tuple #[.agg #[.string (⟨#[]⟩), .int .i64 (0), .int .i64 (0)], .bool false]) (by simp [results, Try.results21, go_sem, y0, y1, y2]) rfl ⟨by simp only [HS.out]; try rfl, (by repeat (first | exact HB.out | exact Below.refl _ _ | refine Below.setCell ?_ (by first | exact Nat.le_refl _ | exact Nat.le_add_right _ _ | (simp only [World.size_alloc]; omega) | (simp only [World.size_setCell]; omega) | (simp only [World.size_alloc, World.size_setCell]; omega) | omega) _ | refine Below.alloc ?_ (by first | exact Nat.le_refl _ | exact Nat.le_add_right _ _ | (simp only [World.size_alloc]; omega) | (simp only [World.size_setCell]; omega) | (simp only [World.size_alloc, World.size_setCell]; omega) | omega) _ | refine Below.drew ?_))⟩

set_option maxHeartbeats 2000000 in
theorem pipeLeave_trueI (t : ByteArray) (r k : Int) (ht : t.size ≤ maxLen) :
    Calls Try.prog 22 #[.agg #[.string t, .int .i64 r, .int .i64 k], .bool true] w fun e w' => e = .returned (.tuple #[.agg #[.string (leaR t r k true).1.1, .int .i64 (leaR t r k true).1.2.1, .int .i64 (leaR t r k true).1.2.2], .bool (leaR t r k true).2]) ∧ Below w.heap.size w w' := by
  have HT := Lib.hid ht
  have hS : leaR t r k true = if (piB t r k && !decide (r = 0)) = true then ((if r = 1 then ⟨#[]⟩ else t, r - 1, k), true) else (piZ, false) := rfl
  clear ht
  have X0 := Lib.hid ((Box.new w #[.string t, .int .i64 r, .int .i64 k] 24).alloc (.cells #[.string ⟨#[]⟩, .int .i64 0, .int .i64 0] 24))
  have Y0 := Lib.hid (Box.new (w.alloc (.cells #[.string t, .int .i64 r, .int .i64 k] 24)) #[.string ⟨#[]⟩, .int .i64 0, .int .i64 0] 24)
  simp only [World.size_alloc] at Y0
  have HB0 := Lib.hid (show Below w.heap.size w ((w.alloc (.cells #[.string t, .int .i64 r, .int .i64 k] 24)).alloc (.cells #[.string ⟨#[]⟩, .int .i64 0, .int .i64 0] 24)) from ((Below.refl _ _).alloc (Nat.le_refl _) _).alloc (by simp only [World.size_alloc]; omega) _)
  go_enter Try.func22, Try.ntmps22
  go_wp2_with fail
  refine (sideI _ X0.out true).mono ?_
  rintro e w1 ⟨rfl, rfl⟩
  rw [if_pos rfl]
  have x0 := X0.out.cell 0
  have x1 := X0.out.cell 1
  have x2 := X0.out.cell 2
  have xf0 := X0.out.frz 0
  have xf1 := X0.out.frz 1
  have xf2 := X0.out.frz 2
  have xl := X0.out.lt
  have y0 := Y0.out.cell 0
  have y1 := Y0.out.cell 1
  have y2 := Y0.out.cell 2
  have yf0 := Y0.out.frz 0
  have yf1 := Y0.out.frz 1
  have yf2 := Y0.out.frz 2
  have yl := Y0.out.lt
  simp at x0 x1 x2 y0 y1 y2
  go_wp2_with fail
  clear x0 x1 x2 xf0 xf1 xf2 xl y0 y1 y2 yf0 yf1 yf2 yl
  refine (pipeOkI t r k HT.out).mono ?_
  rintro e w1 ⟨rfl, hb1⟩
  have HB1 := Lib.hid (HB0.out.trans (hb1.mono HB0.out.size))
  have X1 := Lib.hid (X0.out.below hb1 X0.out.lt)
  have Y1 := Lib.hid (Y0.out.below hb1 Y0.out.lt)
  clear hb1
  have x0 := X1.out.cell 0
  have x1 := X1.out.cell 1
  have x2 := X1.out.cell 2
  have xf0 := X1.out.frz 0
  have xf1 := X1.out.frz 1
  have xf2 := X1.out.frz 2
  have xl := X1.out.lt
  have y0 := Y1.out.cell 0
  have y1 := Y1.out.cell 1
  have y2 := Y1.out.cell 2
  have yf0 := Y1.out.frz 0
  have yf1 := Y1.out.frz 1
  have yf2 := Y1.out.frz 2
  have yl := Y1.out.lt
  simp at x0 x1 x2 y0 y1 y2
  have HB := HB1
  by_cases hc : piB t r k = true
  · obtain ⟨⟨p1, p2⟩, p3, p4⟩ := pi_in hc
    rw [hc] at hS ⊢
    clear hc
    by_cases h0 : r = 0
    · subst h0
      rw [decide_eq_true rfl, if_neg (by decide)] at hS
      have HS := Lib.hid hS
      clear hS
      go_wp2_with fail
      exact bodyPost_ret (v := .tuple #[.agg #[.string (⟨#[]⟩), .int .i64 (0), .int .i64 (0)], .bool false]) (by simp [results, Try.results22, go_sem, y0, y1, y2]) rfl ⟨by simp only [HS.out]; try rfl, (by repeat (first | exact HB.out | exact Below.refl _ _ | refine Below.setCell ?_ (by first | exact Nat.le_refl _ | exact Nat.le_add_right _ _ | (simp only [World.size_alloc]; omega) | (simp only [World.size_setCell]; omega) | (simp only [World.size_alloc, World.size_setCell]; omega) | omega) _ | refine Below.alloc ?_ (by first | exact Nat.le_refl _ | exact Nat.le_add_right _ _ | (simp only [World.size_alloc]; omega) | (simp only [World.size_setCell]; omega) | (simp only [World.size_alloc, World.size_setCell]; omega) | omega) _ | refine Below.drew ?_))⟩
    have e0 : (r == 0) = false := by rw [beq_eq_false_iff_ne]; exact h0
    rw [decide_eq_false h0, if_pos (by rfl)] at hS
    by_cases h1 : r = 1
    · subst h1
      rw [if_pos rfl] at hS
      have HS := Lib.hid hS
      clear hS h0
      go_wp2_with fail
      exact bodyPost_ret (v := .tuple #[.agg #[.string (⟨#[]⟩), .int .i64 (1 - 1), .int .i64 (k)], .bool true]) (by simp [results, Try.results22, go_sem, y0, y1, y2]) rfl ⟨by simp only [HS.out]; try rfl, (by repeat (first | exact HB.out | exact Below.refl _ _ | refine Below.setCell ?_ (by first | exact Nat.le_refl _ | exact Nat.le_add_right _ _ | (simp only [World.size_alloc]; omega) | (simp only [World.size_setCell]; omega) | (simp only [World.size_alloc, World.size_setCell]; omega) | omega) _ | refine Below.alloc ?_ (by first | exact Nat.le_refl _ | exact Nat.le_add_right _ _ | (simp only [World.size_alloc]; omega) | (simp only [World.size_setCell]; omega) | (simp only [World.size_alloc, World.size_setCell]; omega) | omega) _ | refine Below.drew ?_))⟩
    · have e1 : (r - 1 == 0) = false := by rw [beq_eq_false_iff_ne]; omega
      have l1 : ¬ r - 1 = 0 := by omega
      rw [if_neg h1] at hS
      have HS := Lib.hid hS
      clear hS h1
      go_wp2_with fail
      exact bodyPost_ret (v := .tuple #[.agg #[.string (t), .int .i64 (r - 1), .int .i64 (k)], .bool true]) (by simp [results, Try.results22, go_sem, y0, y1, y2]) rfl ⟨by simp only [HS.out]; try rfl, (by repeat (first | exact HB.out | exact Below.refl _ _ | refine Below.setCell ?_ (by first | exact Nat.le_refl _ | exact Nat.le_add_right _ _ | (simp only [World.size_alloc]; omega) | (simp only [World.size_setCell]; omega) | (simp only [World.size_alloc, World.size_setCell]; omega) | omega) _ | refine Below.alloc ?_ (by first | exact Nat.le_refl _ | exact Nat.le_add_right _ _ | (simp only [World.size_alloc]; omega) | (simp only [World.size_setCell]; omega) | (simp only [World.size_alloc, World.size_setCell]; omega) | omega) _ | refine Below.drew ?_))⟩
  · have hc' : piB t r k = false := by simpa using hc
    rw [hc', Bool.false_and, if_neg Bool.false_ne_true] at hS
    have HS := Lib.hid hS
    rw [hc']
    clear hS hc hc'
    go_wp2_with fail
    exact bodyPost_ret (v := .tuple #[.agg #[.string (⟨#[]⟩), .int .i64 (0), .int .i64 (0)], .bool false]) (by simp [results, Try.results22, go_sem, y0, y1, y2]) rfl ⟨by simp only [HS.out]; try rfl, (by repeat (first | exact HB.out | exact Below.refl _ _ | refine Below.setCell ?_ (by first | exact Nat.le_refl _ | exact Nat.le_add_right _ _ | (simp only [World.size_alloc]; omega) | (simp only [World.size_setCell]; omega) | (simp only [World.size_alloc, World.size_setCell]; omega) | omega) _ | refine Below.alloc ?_ (by first | exact Nat.le_refl _ | exact Nat.le_add_right _ _ | (simp only [World.size_alloc]; omega) | (simp only [World.size_setCell]; omega) | (simp only [World.size_alloc, World.size_setCell]; omega) | omega) _ | refine Below.drew ?_))⟩

set_option maxHeartbeats 2000000 in
theorem pipeLeave_falseI (t : ByteArray) (r k : Int) (ht : t.size ≤ maxLen) :
    Calls Try.prog 22 #[.agg #[.string t, .int .i64 r, .int .i64 k], .bool false] w fun e w' => e = .returned (.tuple #[.agg #[.string (leaR t r k false).1.1, .int .i64 (leaR t r k false).1.2.1, .int .i64 (leaR t r k false).1.2.2], .bool (leaR t r k false).2]) ∧ Below w.heap.size w w' := by
  have HT := Lib.hid ht
  have hS : leaR t r k false = if (piB t r k && !decide (k = 0)) = true then ((if r = 0 then ⟨#[]⟩ else t, r, k - 1), true) else (piZ, false) := rfl
  clear ht
  have X0 := Lib.hid ((Box.new w #[.string t, .int .i64 r, .int .i64 k] 24).alloc (.cells #[.string ⟨#[]⟩, .int .i64 0, .int .i64 0] 24))
  have Y0 := Lib.hid (Box.new (w.alloc (.cells #[.string t, .int .i64 r, .int .i64 k] 24)) #[.string ⟨#[]⟩, .int .i64 0, .int .i64 0] 24)
  simp only [World.size_alloc] at Y0
  have HB0 := Lib.hid (show Below w.heap.size w ((w.alloc (.cells #[.string t, .int .i64 r, .int .i64 k] 24)).alloc (.cells #[.string ⟨#[]⟩, .int .i64 0, .int .i64 0] 24)) from ((Below.refl _ _).alloc (Nat.le_refl _) _).alloc (by simp only [World.size_alloc]; omega) _)
  go_enter Try.func22, Try.ntmps22
  go_wp2_with fail
  refine (sideI _ X0.out false).mono ?_
  rintro e w1 ⟨rfl, rfl⟩
  rw [if_neg Bool.false_ne_true]
  have x0 := X0.out.cell 0
  have x1 := X0.out.cell 1
  have x2 := X0.out.cell 2
  have xf0 := X0.out.frz 0
  have xf1 := X0.out.frz 1
  have xf2 := X0.out.frz 2
  have xl := X0.out.lt
  have y0 := Y0.out.cell 0
  have y1 := Y0.out.cell 1
  have y2 := Y0.out.cell 2
  have yf0 := Y0.out.frz 0
  have yf1 := Y0.out.frz 1
  have yf2 := Y0.out.frz 2
  have yl := Y0.out.lt
  simp at x0 x1 x2 y0 y1 y2
  go_wp2_with fail
  clear x0 x1 x2 xf0 xf1 xf2 xl y0 y1 y2 yf0 yf1 yf2 yl
  refine (pipeOkI t r k HT.out).mono ?_
  rintro e w1 ⟨rfl, hb1⟩
  have HB1 := Lib.hid (HB0.out.trans (hb1.mono HB0.out.size))
  have X1 := Lib.hid (X0.out.below hb1 X0.out.lt)
  have Y1 := Lib.hid (Y0.out.below hb1 Y0.out.lt)
  clear hb1
  have x0 := X1.out.cell 0
  have x1 := X1.out.cell 1
  have x2 := X1.out.cell 2
  have xf0 := X1.out.frz 0
  have xf1 := X1.out.frz 1
  have xf2 := X1.out.frz 2
  have xl := X1.out.lt
  have y0 := Y1.out.cell 0
  have y1 := Y1.out.cell 1
  have y2 := Y1.out.cell 2
  have yf0 := Y1.out.frz 0
  have yf1 := Y1.out.frz 1
  have yf2 := Y1.out.frz 2
  have yl := Y1.out.lt
  simp at x0 x1 x2 y0 y1 y2
  have HB := HB1
  by_cases hc : piB t r k = true
  · obtain ⟨⟨p1, p2⟩, p3, p4⟩ := pi_in hc
    rw [hc] at hS ⊢
    clear hc
    by_cases h0 : k = 0
    · subst h0
      rw [decide_eq_true rfl, if_neg (by decide)] at hS
      have HS := Lib.hid hS
      clear hS
      go_wp2_with fail
      exact bodyPost_ret (v := .tuple #[.agg #[.string (⟨#[]⟩), .int .i64 (0), .int .i64 (0)], .bool false]) (by simp [results, Try.results22, go_sem, y0, y1, y2]) rfl ⟨by simp only [HS.out]; try rfl, (by repeat (first | exact HB.out | exact Below.refl _ _ | refine Below.setCell ?_ (by first | exact Nat.le_refl _ | exact Nat.le_add_right _ _ | (simp only [World.size_alloc]; omega) | (simp only [World.size_setCell]; omega) | (simp only [World.size_alloc, World.size_setCell]; omega) | omega) _ | refine Below.alloc ?_ (by first | exact Nat.le_refl _ | exact Nat.le_add_right _ _ | (simp only [World.size_alloc]; omega) | (simp only [World.size_setCell]; omega) | (simp only [World.size_alloc, World.size_setCell]; omega) | omega) _ | refine Below.drew ?_))⟩
    have e0 : (k == 0) = false := by rw [beq_eq_false_iff_ne]; exact h0
    rw [decide_eq_false h0, if_pos (by rfl)] at hS
    by_cases h1 : r = 0
    · subst h1
      rw [if_pos rfl] at hS
      have HS := Lib.hid hS
      clear hS
      go_wp2_with fail
      exact bodyPost_ret (v := .tuple #[.agg #[.string (⟨#[]⟩), .int .i64 (0), .int .i64 (k - 1)], .bool true]) (by simp [results, Try.results22, go_sem, y0, y1, y2]) rfl ⟨by simp only [HS.out]; try rfl, (by repeat (first | exact HB.out | exact Below.refl _ _ | refine Below.setCell ?_ (by first | exact Nat.le_refl _ | exact Nat.le_add_right _ _ | (simp only [World.size_alloc]; omega) | (simp only [World.size_setCell]; omega) | (simp only [World.size_alloc, World.size_setCell]; omega) | omega) _ | refine Below.alloc ?_ (by first | exact Nat.le_refl _ | exact Nat.le_add_right _ _ | (simp only [World.size_alloc]; omega) | (simp only [World.size_setCell]; omega) | (simp only [World.size_alloc, World.size_setCell]; omega) | omega) _ | refine Below.drew ?_))⟩
    · have e1 : (r == 0) = false := by rw [beq_eq_false_iff_ne]; exact h1
      rw [if_neg h1] at hS
      have HS := Lib.hid hS
      clear hS
      go_wp2_with fail
      exact bodyPost_ret (v := .tuple #[.agg #[.string (t), .int .i64 (r), .int .i64 (k - 1)], .bool true]) (by simp [results, Try.results22, go_sem, y0, y1, y2]) rfl ⟨by simp only [HS.out]; try rfl, (by repeat (first | exact HB.out | exact Below.refl _ _ | refine Below.setCell ?_ (by first | exact Nat.le_refl _ | exact Nat.le_add_right _ _ | (simp only [World.size_alloc]; omega) | (simp only [World.size_setCell]; omega) | (simp only [World.size_alloc, World.size_setCell]; omega) | omega) _ | refine Below.alloc ?_ (by first | exact Nat.le_refl _ | exact Nat.le_add_right _ _ | (simp only [World.size_alloc]; omega) | (simp only [World.size_setCell]; omega) | (simp only [World.size_alloc, World.size_setCell]; omega) | omega) _ | refine Below.drew ?_))⟩
  · have hc' : piB t r k = false := by simpa using hc
    rw [hc', Bool.false_and, if_neg Bool.false_ne_true] at hS
    have HS := Lib.hid hS
    rw [hc']
    clear hS hc hc'
    go_wp2_with fail
    exact bodyPost_ret (v := .tuple #[.agg #[.string (⟨#[]⟩), .int .i64 (0), .int .i64 (0)], .bool false]) (by simp [results, Try.results22, go_sem, y0, y1, y2]) rfl ⟨by simp only [HS.out]; try rfl, (by repeat (first | exact HB.out | exact Below.refl _ _ | refine Below.setCell ?_ (by first | exact Nat.le_refl _ | exact Nat.le_add_right _ _ | (simp only [World.size_alloc]; omega) | (simp only [World.size_setCell]; omega) | (simp only [World.size_alloc, World.size_setCell]; omega) | omega) _ | refine Below.alloc ?_ (by first | exact Nat.le_refl _ | exact Nat.le_add_right _ _ | (simp only [World.size_alloc]; omega) | (simp only [World.size_setCell]; omega) | (simp only [World.size_alloc, World.size_setCell]; omega) | omega) _ | refine Below.drew ?_))⟩

theorem pipeJoinI : IJoi 21 := by
  intro w t r k b ht
  cases b
  · exact pipeJoin_falseI t r k ht
  · exact pipeJoin_trueI t r k ht
theorem pipeLeaveI : ILea 22 := by
  intro w t r k b ht
  cases b
  · exact pipeLeave_falseI t r k ht
  · exact pipeLeave_trueI t r k ht
end
end Go.Proofs.Ytjjkkfemhfhciaa
