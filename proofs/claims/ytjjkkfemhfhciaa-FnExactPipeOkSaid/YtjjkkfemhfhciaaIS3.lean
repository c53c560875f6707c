/-
  The model's l9Take and PipeTake.
-/
import Derived.Test.YtjjkkfemhfhciaaIS
namespace Go.Proofs.Ytjjkkfemhfhciaa
open Go.RowKit

section
variable {w : World}
set_option maxHeartbeats 2000000 in
theorem l9Take_any (t : ByteArray) (r k m : Int) (ht : t.size ≤ 8) (hm : 0 ≤ m) :
    Calls Try.prog 50 #[.agg #[.string t, .int .i64 r, .int .i64 k], .int .i64 m] w fun e w' => e = .returned (.tuple #[.agg #[.string (takI t r k m).1.1, .int .i64 (takI t r k m).1.2.1, .int .i64 (takI t r k m).1.2.2], .string (takI t r k m).2.1, .int .i64 (takI t r k m).2.2]) ∧ Below w.heap.size w w' := by
  have HB := Lib.hid (Below.refl w.heap.size w)
  have hS : takI t r k m = takI t r k m := rfl
  conv at hS => rhs; unfold takI
  have HS := Lib.hid hS
  clear hS
  by_cases h1 : m = 0
  · rw [if_pos h1] at HS
    rw [HS.out]
    subst h1
    go_enter Try.func50, Try.ntmps50
    go_wp2_with fail
    exact bodyPost_ret (v := .tuple #[.agg #[.string (t), .int .i64 (r), .int .i64 (k)], .string ⟨#[]⟩, .int .i64 0]) (by simp [results, Try.results50, go_sem]) rfl ⟨rfl, (by repeat (first | exact HB.out | exact Below.refl _ _ | refine Below.setCell ?_ (by first | exact Nat.le_refl _ | exact Nat.le_add_right _ _ | (simp only [World.size_alloc]; omega) | (simp only [World.size_setCell]; omega) | (simp only [World.size_alloc, World.size_setCell]; omega) | omega) _ | refine Below.alloc ?_ (by first | exact Nat.le_refl _ | exact Nat.le_add_right _ _ | (simp only [World.size_alloc]; omega) | (simp only [World.size_setCell]; omega) | (simp only [World.size_alloc, World.size_setCell]; omega) | omega) _ | refine Below.drew ?_))⟩
  have e1 : (m == 0) = false := by rw [beq_eq_false_iff_ne]; exact h1
  rw [if_neg h1] at HS
  by_cases h2 : t.size = 0
  · rw [if_pos h2] at HS
    rw [HS.out]
    have he : (t.toList == ([] : List UInt8)) = true := by rw [emp_list, decide_eq_true h2]
    clear h2 h1
    by_cases h3 : k = 0
    · subst h3
      rw [if_pos rfl]
      go_enter Try.func50, Try.ntmps50
      go_wp2_with fail
      exact bodyPost_ret (v := .tuple #[.agg #[.string (t), .int .i64 (r), .int .i64 (0)], .string ⟨#[]⟩, .int .i64 3]) (by simp [results, Try.results50, go_sem]) rfl ⟨rfl, (by repeat (first | exact HB.out | exact Below.refl _ _ | refine Below.setCell ?_ (by first | exact Nat.le_refl _ | exact Nat.le_add_right _ _ | (simp only [World.size_alloc]; omega) | (simp only [World.size_setCell]; omega) | (simp only [World.size_alloc, World.size_setCell]; omega) | omega) _ | refine Below.alloc ?_ (by first | exact Nat.le_refl _ | exact Nat.le_add_right _ _ | (simp only [World.size_alloc]; omega) | (simp only [World.size_setCell]; omega) | (simp only [World.size_alloc, World.size_setCell]; omega) | omega) _ | refine Below.drew ?_))⟩
    · have e3 : (k == 0) = false := by rw [beq_eq_false_iff_ne]; exact h3
      rw [if_neg h3]
      clear h3
      go_enter Try.func50, Try.ntmps50
      go_wp2_with fail
      exact bodyPost_ret (v := .tuple #[.agg #[.string (t), .int .i64 (r), .int .i64 (k)], .string ⟨#[]⟩, .int .i64 2]) (by simp [results, Try.results50, go_sem]) rfl ⟨rfl, (by repeat (first | exact HB.out | exact Below.refl _ _ | refine Below.setCell ?_ (by first | exact Nat.le_refl _ | exact Nat.le_add_right _ _ | (simp only [World.size_alloc]; omega) | (simp only [World.size_setCell]; omega) | (simp only [World.size_alloc, World.size_setCell]; omega) | omega) _ | refine Below.alloc ?_ (by first | exact Nat.le_refl _ | exact Nat.le_add_right _ _ | (simp only [World.size_alloc]; omega) | (simp only [World.size_setCell]; omega) | (simp only [World.size_alloc, World.size_setCell]; omega) | omega) _ | refine Below.drew ?_))⟩
  have he : (t.toList == ([] : List UInt8)) = false := by rw [emp_list, decide_eq_false h2]
  rw [if_neg h2] at HS
  clear h2 h1
  obtain ⟨n, rfl⟩ : ∃ n : Nat, m = n := ⟨m.toNat, by omega⟩
  rw [Int.toNat_natCast] at HS
  have q0 : (0 : Int) ≤ (n : Int) := by omega
  by_cases h4 : n ≤ t.size
  · have q1 : (n : Int) ≤ (t.size : Int) := by omega
    rw [Nat.min_eq_left h4] at HS
    rw [HS.out]
    go_enter Try.func50, Try.ntmps50
    go_wp2_with fail
    exact bodyPost_ret (v := .tuple #[.agg #[.string (t.extract n t.size), .int .i64 (r), .int .i64 (k)], .string (t.extract 0 n), .int .i64 0]) (by simp [results, Try.results50, go_sem]) rfl ⟨rfl, (by repeat (first | exact HB.out | exact Below.refl _ _ | refine Below.setCell ?_ (by first | exact Nat.le_refl _ | exact Nat.le_add_right _ _ | (simp only [World.size_alloc]; omega) | (simp only [World.size_setCell]; omega) | (simp only [World.size_alloc, World.size_setCell]; omega) | omega) _ | refine Below.alloc ?_ (by first | exact Nat.le_refl _ | exact Nat.le_add_right _ _ | (simp only [World.size_alloc]; omega) | (simp only [World.size_setCell]; omega) | (simp only [World.size_alloc, World.size_setCell]; omega) | omega) _ | refine Below.drew ?_))⟩
  · have q1 : t.size < n := by omega
    have q2 : (0 : Int) ≤ (t.size : Int) := by omega
    rw [Nat.min_eq_right (by omega)] at HS
    rw [HS.out]
    go_enter Try.func50, Try.ntmps50
    go_wp2_with fail
    exact bodyPost_ret (v := .tuple #[.agg #[.string (t.extract t.size t.size), .int .i64 (r), .int .i64 (k)], .string (t.extract 0 t.size), .int .i64 0]) (by simp [results, Try.results50, go_sem]) rfl ⟨rfl, (by repeat (first | exact HB.out | exact Below.refl _ _ | refine Below.setCell ?_ (by first | exact Nat.le_refl _ | exact Nat.le_add_right _ _ | (simp only [World.size_alloc]; omega) | (simp only [World.size_setCell]; omega) | (simp only [World.size_alloc, World.size_setCell]; omega) | omega) _ | refine Below.alloc ?_ (by first | exact Nat.le_refl _ | exact Nat.le_add_right _ _ | (simp only [World.size_alloc]; omega) | (simp only [World.size_setCell]; omega) | (simp only [World.size_alloc, World.size_setCell]; omega) | omega) _ | refine Below.drew ?_))⟩

set_option maxHeartbeats 2000000 in
theorem pipeTake_any : ITak 28 := by
  intro w t r k m ht
  have HT := Lib.hid ht
  have hS : takR t r k m = if (piB t r k && (!decide (r = 0) && decide (0 ≤ m))) = true then takI t r k m else (piZ, ⟨#[]⟩, 1) := rfl
  clear ht
  by_cases hc : piB t r k = true
  · have h8 : t.size ≤ 8 := pi_size hc
    have HC := Lib.hid hc
    by_cases h0 : r = 0
    · have e0 : (r == 0) = true := by rw [beq_iff_eq]; exact h0
      rw [hc, decide_eq_true h0, if_neg (by simp)] at hS
      rw [hS]
      clear hS hc h0
      have X0 := Lib.hid ((Box.new w #[.string t, .int .i64 r, .int .i64 k] 24).alloc (.cells #[.string ⟨#[]⟩, .int .i64 0, .int .i64 0] 24))
      have Y0 := Lib.hid (Box.new (w.alloc (.cells #[.string t, .int .i64 r, .int .i64 k] 24)) #[.string ⟨#[]⟩, .int .i64 0, .int .i64 0] 24)
      simp only [World.size_alloc] at Y0
      have HB0 := Lib.hid (show Below w.heap.size w ((w.alloc (.cells #[.string t, .int .i64 r, .int .i64 k] 24)).alloc (.cells #[.string ⟨#[]⟩, .int .i64 0, .int .i64 0] 24)) from ((Below.refl _ _).alloc (Nat.le_refl _) _).alloc (by simp only [World.size_alloc]; omega) _)
      go_enter Try.func28, Try.ntmps28
      go_wp2_with fail
      refine (pipeOk_any t r k HT.out).mono ?_
      rintro e w1 ⟨rfl, hb1⟩
      have HB := Lib.hid (HB0.out.trans (hb1.mono HB0.out.size))
      have X1 := Lib.hid (X0.out.below hb1 X0.out.lt)
      have Y1 := Lib.hid (Y0.out.below hb1 Y0.out.lt)
      clear hb1
      have x0 := X1.out.cell 0
      have x1 := X1.out.cell 1
      have x2 := X1.out.cell 2
      have xl := X1.out.lt
      have y0 := Y1.out.cell 0
      have y1 := Y1.out.cell 1
      have y2 := Y1.out.cell 2
      have f0 := Y1.out.frz 0
      have f1 := Y1.out.frz 1
      have f2 := Y1.out.frz 2
      have yl := Y1.out.lt
      simp at x0 x1 x2 y0 y1 y2
      rw [HC.out]
      go_wp2_with fail
      exact bodyPost_ret (v := .tuple #[.agg #[.string (⟨#[]⟩), .int .i64 (0), .int .i64 (0)], .string ⟨#[]⟩, .int .i64 1]) (by simp [results, Try.results28, go_sem, y0, y1, y2]) rfl ⟨rfl, (by repeat (first | exact HB.out | exact Below.refl _ _ | refine Below.setCell ?_ (by first | exact Nat.le_refl _ | exact Nat.le_add_right _ _ | (simp only [World.size_alloc]; omega) | (simp only [World.size_setCell]; omega) | (simp only [World.size_alloc, World.size_setCell]; omega) | omega) _ | refine Below.alloc ?_ (by first | exact Nat.le_refl _ | exact Nat.le_add_right _ _ | (simp only [World.size_alloc]; omega) | (simp only [World.size_setCell]; omega) | (simp only [World.size_alloc, World.size_setCell]; omega) | omega) _ | refine Below.drew ?_))⟩
    have e0 : (r == 0) = false := by rw [beq_eq_false_iff_ne]; exact h0
    by_cases h1 : 0 ≤ m
    · rw [hc, decide_eq_false h0, decide_eq_true h1, if_pos (by rfl)] at hS
      rw [hS]
      clear hS hc h0
      have X0 := Lib.hid ((Box.new w #[.string t, .int .i64 r, .int .i64 k] 24).alloc (.cells #[.string ⟨#[]⟩, .int .i64 0, .int .i64 0] 24))
      have Y0 := Lib.hid (Box.new (w.alloc (.cells #[.string t, .int .i64 r, .int .i64 k] 24)) #[.string ⟨#[]⟩, .int .i64 0, .int .i64 0] 24)
      simp only [World.size_alloc] at Y0
      have HB0 := Lib.hid (show Below w.heap.size w ((w.alloc (.cells #[.string t, .int .i64 r, .int .i64 k] 24)).alloc (.cells #[.string ⟨#[]⟩, .int .i64 0, .int .i64 0] 24)) from ((Below.refl _ _).alloc (Nat.le_refl _) _).alloc (by simp only [World.size_alloc]; omega) _)
      go_enter Try.func28, Try.ntmps28
      go_wp2_with fail
      refine (pipeOk_any t r k HT.out).mono ?_
      rintro e w1 ⟨rfl, hb1⟩
      have HB := Lib.hid (HB0.out.trans (hb1.mono HB0.out.size))
      have X1 := Lib.hid (X0.out.below hb1 X0.out.lt)
      have Y1 := Lib.hid (Y0.out.below hb1 Y0.out.lt)
      clear hb1
      have x0 := X1.out.cell 0
      have x1 := X1.out.cell 1
      have x2 := X1.out.cell 2
      have xl := X1.out.lt
      have y0 := Y1.out.cell 0
      have y1 := Y1.out.cell 1
      have y2 := Y1.out.cell 2
      have f0 := Y1.out.frz 0
      have f1 := Y1.out.frz 1
      have f2 := Y1.out.frz 2
      have yl := Y1.out.lt
      simp at x0 x1 x2 y0 y1 y2
      rw [HC.out]
      go_wp2_with fail
      refine (l9Take_any t r k m h8 h1).mono ?_
      rintro e w2 ⟨rfl, hb2⟩
      have HB2 := Lib.hid (HB.out.trans (hb2.mono HB.out.size))
      have X2 := Lib.hid (X1.out.below hb2 X1.out.lt)
      have Y2 := Lib.hid (Y1.out.below hb2 Y1.out.lt)
      clear x0 x1 x2 xl y0 y1 y2 f0 f1 f2 yl
      clear hb2 HB
      have HB := HB2
      have x0 := X2.out.cell 0
      have x1 := X2.out.cell 1
      have x2 := X2.out.cell 2
      have xl := X2.out.lt
      have y0 := Y2.out.cell 0
      have y1 := Y2.out.cell 1
      have y2 := Y2.out.cell 2
      have f0 := Y2.out.frz 0
      have f1 := Y2.out.frz 1
      have f2 := Y2.out.frz 2
      have yl := Y2.out.lt
      simp at x0 x1 x2 y0 y1 y2
      go_wp2_with fail
      exact bodyPost_ret (v := .tuple #[.agg #[.string ((takI t r k m).1.1), .int .i64 ((takI t r k m).1.2.1), .int .i64 ((takI t r k m).1.2.2)], .string (takI t r k m).2.1, .int .i64 (takI t r k m).2.2]) (by simp [results, Try.results28, go_sem, y0, y1, y2]) rfl ⟨rfl, (by repeat (first | exact HB.out | exact Below.refl _ _ | refine Below.setCell ?_ (by first | exact Nat.le_refl _ | exact Nat.le_add_right _ _ | (simp only [World.size_alloc]; omega) | (simp only [World.size_setCell]; omega) | (simp only [World.size_alloc, World.size_setCell]; omega) | omega) _ | refine Below.alloc ?_ (by first | exact Nat.le_refl _ | exact Nat.le_add_right _ _ | (simp only [World.size_alloc]; omega) | (simp only [World.size_setCell]; omega) | (simp only [World.size_alloc, World.size_setCell]; omega) | omega) _ | refine Below.drew ?_))⟩
    · rw [hc, decide_eq_false h0, decide_eq_false h1, if_neg (by simp)] at hS
      rw [hS]
      clear hS hc h0
      have X0 := Lib.hid ((Box.new w #[.string t, .int .i64 r, .int .i64 k] 24).alloc (.cells #[.string ⟨#[]⟩, .int .i64 0, .int .i64 0] 24))
      have Y0 := Lib.hid (Box.new (w.alloc (.cells #[.string t, .int .i64 r, .int .i64 k] 24)) #[.string ⟨#[]⟩, .int .i64 0, .int .i64 0] 24)
      simp only [World.size_alloc] at Y0
      have HB0 := Lib.hid (show Below w.heap.size w ((w.alloc (.cells #[.string t, .int .i64 r, .int .i64 k] 24)).alloc (.cells #[.string ⟨#[]⟩, .int .i64 0, .int .i64 0] 24)) from ((Below.refl _ _).alloc (Nat.le_refl _) _).alloc (by simp only [World.size_alloc]; omega) _)
      go_enter Try.func28, Try.ntmps28
      go_wp2_with fail
      refine (pipeOk_any t r k HT.out).mono ?_
      rintro e w1 ⟨rfl, hb1⟩
      have HB := Lib.hid (HB0.out.trans (hb1.mono HB0.out.size))
      have X1 := Lib.hid (X0.out.below hb1 X0.out.lt)
      have Y1 := Lib.hid (Y0.out.below hb1 Y0.out.lt)
      clear hb1
      have x0 := X1.out.cell 0
      have x1 := X1.out.cell 1
      have x2 := X1.out.cell 2
      have xl := X1.out.lt
      have y0 := Y1.out.cell 0
      have y1 := Y1.out.cell 1
      have y2 := Y1.out.cell 2
      have f0 := Y1.out.frz 0
      have f1 := Y1.out.frz 1
      have f2 := Y1.out.frz 2
      have yl := Y1.out.lt
      simp at x0 x1 x2 y0 y1 y2
      rw [HC.out]
      go_wp2_with fail
      exact bodyPost_ret (v := .tuple #[.agg #[.string (⟨#[]⟩), .int .i64 (0), .int .i64 (0)], .string ⟨#[]⟩, .int .i64 1]) (by simp [results, Try.results28, go_sem, y0, y1, y2]) rfl ⟨rfl, (by repeat (first | exact HB.out | exact Below.refl _ _ | refine Below.setCell ?_ (by first | exact Nat.le_refl _ | exact Nat.le_add_right _ _ | (simp only [World.size_alloc]; omega) | (simp only [World.size_setCell]; omega) | (simp only [World.size_alloc, World.size_setCell]; omega) | omega) _ | refine Below.alloc ?_ (by first | exact Nat.le_refl _ | exact Nat.le_add_right _ _ | (simp only [World.size_alloc]; omega) | (simp only [World.size_setCell]; omega) | (simp only [World.size_alloc, World.size_setCell]; omega) | omega) _ | refine Below.drew ?_))⟩
  · have hc' : piB t r k = false := by simpa using hc
    rw [hc', Bool.false_and, if_neg Bool.false_ne_true] at hS
    rw [hS]
    clear hS hc
    have HC := Lib.hid hc'
    have X0 := Lib.hid ((Box.new w #[.string t, .int .i64 r, .int .i64 k] 24).alloc (.cells #[.string ⟨#[]⟩, .int .i64 0, .int .i64 0] 24))
    have Y0 := Lib.hid (Box.new (w.alloc (.cells #[.string t, .int .i64 r, .int .i64 k] 24)) #[.string ⟨#[]⟩, .int .i64 0, .int .i64 0] 24)
    simp only [World.size_alloc] at Y0
    have HB0 := Lib.hid (show Below w.heap.size w ((w.alloc (.cells #[.string t, .int .i64 r, .int .i64 k] 24)).alloc (.cells #[.string ⟨#[]⟩, .int .i64 0, .int .i64 0] 24)) from ((Below.refl _ _).alloc (Nat.le_refl _) _).alloc (by simp only [World.size_alloc]; omega) _)
    go_enter Try.func28, Try.ntmps28
    go_wp2_with fail
    refine (pipeOk_any t r k HT.out).mono ?_
    rintro e w1 ⟨rfl, hb1⟩
    have HB := Lib.hid (HB0.out.trans (hb1.mono HB0.out.size))
    have X1 := Lib.hid (X0.out.below hb1 X0.out.lt)
    have Y1 := Lib.hid (Y0.out.below hb1 Y0.out.lt)
    clear hb1
    have x0 := X1.out.cell 0
    have x1 := X1.out.cell 1
    have x2 := X1.out.cell 2
    have xl := X1.out.lt
    have y0 := Y1.out.cell 0
    have y1 := Y1.out.cell 1
    have y2 := Y1.out.cell 2
    have f0 := Y1.out.frz 0
    have f1 := Y1.out.frz 1
    have f2 := Y1.out.frz 2
    have yl := Y1.out.lt
    simp at x0 x1 x2 y0 y1 y2
    rw [HC.out]
    go_wp2_with fail
    exact bodyPost_ret (v := .tuple #[.agg #[.string (⟨#[]⟩), .int .i64 (0), .int .i64 (0)], .string ⟨#[]⟩, .int .i64 1]) (by simp [results, Try.results28, go_sem, y0, y1, y2]) rfl ⟨rfl, (by repeat (first | exact HB.out | exact Below.refl _ _ | refine Below.setCell ?_ (by first | exact Nat.le_refl _ | exact Nat.le_add_right _ _ | (simp only [World.size_alloc]; omega) | (simp only [World.size_setCell]; omega) | (simp only [World.size_alloc, World.size_setCell]; omega) | omega) _ | refine Below.alloc ?_ (by first | exact Nat.le_refl _ | exact Nat.le_add_right _ _ | (simp only [World.size_alloc]; omega) | (simp only [World.size_setCell]; omega) | (simp only [World.size_alloc, World.size_setCell]; omega) | omega) _ | refine Below.drew ?_))⟩
end
end Go.Proofs.Ytjjkkfemhfhciaa
