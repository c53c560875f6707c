/-
  The model's PipePut.
-/
import Derived.Test.YtjjkkfemhfhciaaIS
namespace Go.Proofs.Ytjjkkfemhfhciaa
open Go.RowKit

section
variable {w : World}
set_option maxHeartbeats 2000000 in
theorem pipePut_any : IPut 25 := by
  intro w t r k x ht hx
  have HT := Lib.hid ht
  have HXX := Lib.hid hx
  have hS : putR t r k x = if (piB t r k && !decide (k = 0)) = true then putI t r k x else (piZ, 0, 1) := rfl
  clear ht hx
  by_cases hc : piB t r k = true
  · have h8 : t.size ≤ 8 := pi_size hc
    have HC := Lib.hid hc
    by_cases h0 : k = 0
    · have e0 : (k == 0) = true := by rw [beq_iff_eq]; exact h0
      rw [hc, decide_eq_true h0, if_neg (by decide)] at hS
      rw [hS]
      clear hS hc h0
      have X0 := Lib.hid ((Box.new w #[.string t, .int .i64 r, .int .i64 k] 24).alloc (.cells #[.string ⟨#[]⟩, .int .i64 0, .int .i64 0] 24))
      have Y0 := Lib.hid (Box.new (w.alloc (.cells #[.string t, .int .i64 r, .int .i64 k] 24)) #[.string ⟨#[]⟩, .int .i64 0, .int .i64 0] 24)
      simp only [World.size_alloc] at Y0
      have HB0 := Lib.hid (show Below w.heap.size w ((w.alloc (.cells #[.string t, .int .i64 r, .int .i64 k] 24)).alloc (.cells #[.string ⟨#[]⟩, .int .i64 0, .int .i64 0] 24)) from ((Below.refl _ _).alloc (Nat.le_refl _) _).alloc (by simp only [World.size_alloc]; omega) _)
      go_enter Try.func25, Try.ntmps25
      go_wp2_with fail
      refine (pipeOk_any t r k HT.out).mono ?_
      rintro e w1 ⟨rfl, hb1⟩
      have HB := Lib.hid (HB0.out.trans (hb1.mono HB0.out.size))
      have X1 := Lib.hid (X0.out.below hb1 X0.out.lt)
      have Y1 := Lib.hid (Y0.out.below hb1 Y0.out.lt)
      clear hb1
      have x0 := X1.out.cell 0
      have x1 := X1.out.cell 1
      have x2 := X1.out.cell 2
      have xl := X1.out.lt
      have y0 := Y1.out.cell 0
      have y1 := Y1.out.cell 1
      have y2 := Y1.out.cell 2
      have f0 := Y1.out.frz 0
      have f1 := Y1.out.frz 1
      have f2 := Y1.out.frz 2
      have yl := Y1.out.lt
      simp at x0 x1 x2 y0 y1 y2
      rw [HC.out]
      go_wp2_with fail
      exact bodyPost_ret (v := .tuple #[.agg #[.string (⟨#[]⟩), .int .i64 (0), .int .i64 (0)], .int .i64 0, .int .i64 1]) (by simp [results, Try.results25, go_sem, y0, y1, y2]) rfl ⟨rfl, (by repeat (first | exact HB.out | exact Below.refl _ _ | refine Below.setCell ?_ (by first | exact Nat.le_refl _ | exact Nat.le_add_right _ _ | (simp only [World.size_alloc]; omega) | (simp only [World.size_setCell]; omega) | (simp only [World.size_alloc, World.size_setCell]; omega) | omega) _ | refine Below.alloc ?_ (by first | exact Nat.le_refl _ | exact Nat.le_add_right _ _ | (simp only [World.size_alloc]; omega) | (simp only [World.size_setCell]; omega) | (simp only [World.size_alloc, World.size_setCell]; omega) | omega) _ | refine Below.drew ?_))⟩
    · have e0 : (k == 0) = false := by rw [beq_eq_false_iff_ne]; exact h0
      rw [hc, decide_eq_false h0, if_pos (by rfl)] at hS
      rw [hS]
      clear hS hc h0
      have X0 := Lib.hid ((Box.new w #[.string t, .int .i64 r, .int .i64 k] 24).alloc (.cells #[.string ⟨#[]⟩, .int .i64 0, .int .i64 0] 24))
      have Y0 := Lib.hid (Box.new (w.alloc (.cells #[.string t, .int .i64 r, .int .i64 k] 24)) #[.string ⟨#[]⟩, .int .i64 0, .int .i64 0] 24)
      simp only [World.size_alloc] at Y0
      have HB0 := Lib.hid (show Below w.heap.size w ((w.alloc (.cells #[.string t, .int .i64 r, .int .i64 k] 24)).alloc (.cells #[.string ⟨#[]⟩, .int .i64 0, .int .i64 0] 24)) from ((Below.refl _ _).alloc (Nat.le_refl _) _).alloc (by simp only [World.size_alloc]; omega) _)
      go_enter Try.func25, Try.ntmps25
      go_wp2_with fail
      refine (pipeOk_any t r k HT.out).mono ?_
      rintro e w1 ⟨rfl, hb1⟩
      have HB := Lib.hid (HB0.out.trans (hb1.mono HB0.out.size))
      have X1 := Lib.hid (X0.out.below hb1 X0.out.lt)
      have Y1 := Lib.hid (Y0.out.below hb1 Y0.out.lt)
      clear hb1
      have x0 := X1.out.cell 0
      have x1 := X1.out.cell 1
      have x2 := X1.out.cell 2
      have xl := X1.out.lt
      have y0 := Y1.out.cell 0
      have y1 := Y1.out.cell 1
      have y2 := Y1.out.cell 2
      have f0 := Y1.out.frz 0
      have f1 := Y1.out.frz 1
      have f2 := Y1.out.frz 2
      have yl := Y1.out.lt
      simp at x0 x1 x2 y0 y1 y2
      rw [HC.out]
      go_wp2_with fail
      refine (l9Put_any t r k x h8 HXX.out).mono ?_
      rintro e w2 ⟨rfl, hb2⟩
      have HB2 := Lib.hid (HB.out.trans (hb2.mono HB.out.size))
      have X2 := Lib.hid (X1.out.below hb2 X1.out.lt)
      have Y2 := Lib.hid (Y1.out.below hb2 Y1.out.lt)
      clear x0 x1 x2 xl y0 y1 y2 f0 f1 f2 yl
      clear hb2 HB
      have HB := HB2
      have x0 := X2.out.cell 0
      have x1 := X2.out.cell 1
      have x2 := X2.out.cell 2
      have xl := X2.out.lt
      have y0 := Y2.out.cell 0
      have y1 := Y2.out.cell 1
      have y2 := Y2.out.cell 2
      have f0 := Y2.out.frz 0
      have f1 := Y2.out.frz 1
      have f2 := Y2.out.frz 2
      have yl := Y2.out.lt
      simp at x0 x1 x2 y0 y1 y2
      go_wp2_with fail
      exact bodyPost_ret (v := .tuple #[.agg #[.string ((putI t r k x).1.1), .int .i64 ((putI t r k x).1.2.1), .int .i64 ((putI t r k x).1.2.2)], .int .i64 (putI t r k x).2.1, .int .i64 (putI t r k x).2.2]) (by simp [results, Try.results25, go_sem, y0, y1, y2]) rfl ⟨rfl, (by repeat (first | exact HB.out | exact Below.refl _ _ | refine Below.setCell ?_ (by first | exact Nat.le_refl _ | exact Nat.le_add_right _ _ | (simp only [World.size_alloc]; omega) | (simp only [World.size_setCell]; omega) | (simp only [World.size_alloc, World.size_setCell]; omega) | omega) _ | refine Below.alloc ?_ (by first | exact Nat.le_refl _ | exact Nat.le_add_right _ _ | (simp only [World.size_alloc]; omega) | (simp only [World.size_setCell]; omega) | (simp only [World.size_alloc, World.size_setCell]; omega) | omega) _ | refine Below.drew ?_))⟩
  · have hc' : piB t r k = false := by simpa using hc
    rw [hc', Bool.false_and, if_neg Bool.false_ne_true] at hS
    rw [hS]
    clear hS hc
    have HC := Lib.hid hc'
    have X0 := Lib.hid ((Box.new w #[.string t, .int .i64 r, .int .i64 k] 24).alloc (.cells #[.string ⟨#[]⟩, .int .i64 0, .int .i64 0] 24))
    have Y0 := Lib.hid (Box.new (w.alloc (.cells #[.string t, .int .i64 r, .int .i64 k] 24)) #[.string ⟨#[]⟩, .int .i64 0, .int .i64 0] 24)
    simp only [World.size_alloc] at Y0
    have HB0 := Lib.hid (show Below w.heap.size w ((w.alloc (.cells #[.string t, .int .i64 r, .int .i64 k] 24)).alloc (.cells #[.string ⟨#[]⟩, .int .i64 0, .int .i64 0] 24)) from ((Below.refl _ _).alloc (Nat.le_refl _) _).alloc (by simp only [World.size_alloc]; omega) _)
    go_enter Try.func25, Try.ntmps25
    go_wp2_with fail
    refine (pipeOk_any t r k HT.out).mono ?_
    rintro e w1 ⟨rfl, hb1⟩
    have HB := Lib.hid (HB0.out.trans (hb1.mono HB0.out.size))
    have X1 := Lib.hid (X0.out.below hb1 X0.out.lt)
    have Y1 := Lib.hid (Y0.out.below hb1 Y0.out.lt)
    clear hb1
    have x0 := X1.out.cell 0
    have x1 := X1.out.cell 1
    have x2 := X1.out.cell 2
    have xl := X1.out.lt
    have y0 := Y1.out.cell 0
    have y1 := Y1.out.cell 1
    have y2 := Y1.out.cell 2
    have f0 := Y1.out.frz 0
    have f1 := Y1.out.frz 1
    have f2 := Y1.out.frz 2
    have yl := Y1.out.lt
    simp at x0 x1 x2 y0 y1 y2
    rw [HC.out]
    go_wp2_with fail
    exact bodyPost_ret (v := .tuple #[.agg #[.string (⟨#[]⟩), .int .i64 (0), .int .i64 (0)], .int .i64 0, .int .i64 1]) (by simp [results, Try.results25, go_sem, y0, y1, y2]) rfl ⟨rfl, (by repeat (first | exact HB.out | exact Below.refl _ _ | refine Below.setCell ?_ (by first | exact Nat.le_refl _ | exact Nat.le_add_right _ _ | (simp only [World.size_alloc]; omega) | (simp only [World.size_setCell]; omega) | (simp only [World.size_alloc, World.size_setCell]; omega) | omega) _ | refine Below.alloc ?_ (by first | exact Nat.le_refl _ | exact Nat.le_add_right _ _ | (simp only [World.size_alloc]; omega) | (simp only [World.size_setCell]; omega) | (simp only [World.size_alloc, World.size_setCell]; omega) | omega) _ | refine Below.drew ?_))⟩
end
end Go.Proofs.Ytjjkkfemhfhciaa
