/-
  The model's PipeReady.
-/
import Derived.Test.YtjjkkfemhfhciaaIS
namespace Go.Proofs.Ytjjkkfemhfhciaa
open Go.RowKit

section
variable {w : World}
theorem rdy_eq {t : ByteArray} {r k : Int} (hc : piB t r k = true) : rdyR t r k = (!decide (t.size = 0) || decide (k = 0), decide (t.size < 8) || decide (r = 0)) := by
  unfold rdyR
  rw [hc, if_pos rfl]
set_option maxHeartbeats 2000000 in
theorem pipeReady_any : IRdy 35 := by
  intro w t r k ht
  have HT := Lib.hid ht
  have ht' : t.size ≤ 9223372036854775807 := by unfold maxLen at ht; omega
  clear ht
  by_cases hc : piB t r k = true
  · have HC := Lib.hid hc
    by_cases h1 : t.size = 0
    · by_cases h2 : k = 0
      · have he : (t.toList == ([] : List UInt8)) = true := by rw [emp_list, decide_eq_true h1]
        have he2 : (t.toList != ([] : List UInt8)) = false := by rw [bne, he]; rfl
        have ek : (k == 0) = true := by rw [beq_iff_eq]; exact h2
        have l8 : (t.size : Int) < 8 := by omega
        have HR := Lib.hid (show rdyR t r k = (true, true) by rw [rdy_eq hc]; simp [h1, h2])
        rw [HR.out]
        clear hc h1 h2
        have HB0 := Lib.hid (show Below w.heap.size w (w.alloc (.cells #[.string t, .int .i64 r, .int .i64 k] 24)) from (Below.refl _ _).alloc (Nat.le_refl _) _)
        have X0 := Lib.hid (Box.new w #[.string t, .int .i64 r, .int .i64 k] 24)
        go_enter Try.func35, Try.ntmps35
        go_wp2_with fail
        refine (pipeOk_any t r k HT.out).mono ?_
        rintro e w1 ⟨rfl, hb1⟩
        have HB := Lib.hid (HB0.out.trans (hb1.mono HB0.out.size))
        have X1 := Lib.hid (X0.out.below hb1 X0.out.lt)
        clear hb1
        have x0 := X1.out.cell 0
        have x1 := X1.out.cell 1
        have x2 := X1.out.cell 2
        have xl := X1.out.lt
        simp at x0 x1 x2
        rw [HC.out]
        go_wp2_with fail
        go_quiet (fail)
        go_wp2_with fail
        go_ret2
        exact ⟨rfl, bel_drewN HB.out _⟩
      · have he : (t.toList == ([] : List UInt8)) = true := by rw [emp_list, decide_eq_true h1]
        have he2 : (t.toList != ([] : List UInt8)) = false := by rw [bne, he]; rfl
        have ek : (k == 0) = false := by rw [beq_eq_false_iff_ne]; exact h2
        have l8 : (t.size : Int) < 8 := by omega
        have HR := Lib.hid (show rdyR t r k = (false, true) by rw [rdy_eq hc]; simp [h1, h2])
        rw [HR.out]
        clear hc h1 h2
        have HB0 := Lib.hid (show Below w.heap.size w (w.alloc (.cells #[.string t, .int .i64 r, .int .i64 k] 24)) from (Below.refl _ _).alloc (Nat.le_refl _) _)
        have X0 := Lib.hid (Box.new w #[.string t, .int .i64 r, .int .i64 k] 24)
        go_enter Try.func35, Try.ntmps35
        go_wp2_with fail
        refine (pipeOk_any t r k HT.out).mono ?_
        rintro e w1 ⟨rfl, hb1⟩
        have HB := Lib.hid (HB0.out.trans (hb1.mono HB0.out.size))
        have X1 := Lib.hid (X0.out.below hb1 X0.out.lt)
        clear hb1
        have x0 := X1.out.cell 0
        have x1 := X1.out.cell 1
        have x2 := X1.out.cell 2
        have xl := X1.out.lt
        simp at x0 x1 x2
        rw [HC.out]
        go_wp2_with fail
        go_quiet (fail)
        go_wp2_with fail
        go_ret2
        exact ⟨rfl, bel_drewN HB.out _⟩
    · by_cases h3 : t.size < 8
      · have he : (t.toList == ([] : List UInt8)) = false := by rw [emp_list, decide_eq_false h1]
        have he2 : (t.toList != ([] : List UInt8)) = true := by rw [bne, he]; rfl
        have l8 : (t.size : Int) < 8 := by omega
        have HR := Lib.hid (show rdyR t r k = (true, true) by rw [rdy_eq hc]; simp [h1, h3])
        rw [HR.out]
        clear hc h1 h3
        have HB0 := Lib.hid (show Below w.heap.size w (w.alloc (.cells #[.string t, .int .i64 r, .int .i64 k] 24)) from (Below.refl _ _).alloc (Nat.le_refl _) _)
        have X0 := Lib.hid (Box.new w #[.string t, .int .i64 r, .int .i64 k] 24)
        go_enter Try.func35, Try.ntmps35
        go_wp2_with fail
        refine (pipeOk_any t r k HT.out).mono ?_
        rintro e w1 ⟨rfl, hb1⟩
        have HB := Lib.hid (HB0.out.trans (hb1.mono HB0.out.size))
        have X1 := Lib.hid (X0.out.below hb1 X0.out.lt)
        clear hb1
        have x0 := X1.out.cell 0
        have x1 := X1.out.cell 1
        have x2 := X1.out.cell 2
        have xl := X1.out.lt
        simp at x0 x1 x2
        rw [HC.out]
        go_wp2_with fail
        go_quiet (fail)
        go_wp2_with fail
        go_ret2
        exact ⟨rfl, bel_drewN HB.out _⟩
      · by_cases h4 : r = 0
        · have he : (t.toList == ([] : List UInt8)) = false := by rw [emp_list, decide_eq_false h1]
          have he2 : (t.toList != ([] : List UInt8)) = true := by rw [bne, he]; rfl
          have l8 : decide ((t.size : Int) < 8) = false := decide_eq_false (by omega)
          have er : (r == 0) = true := by rw [beq_iff_eq]; exact h4
          have HR := Lib.hid (show rdyR t r k = (true, true) by rw [rdy_eq hc]; simp [h1, h3, h4])
          rw [HR.out]
          clear hc h1 h3 h4
          have HB0 := Lib.hid (show Below w.heap.size w (w.alloc (.cells #[.string t, .int .i64 r, .int .i64 k] 24)) from (Below.refl _ _).alloc (Nat.le_refl _) _)
          have X0 := Lib.hid (Box.new w #[.string t, .int .i64 r, .int .i64 k] 24)
          go_enter Try.func35, Try.ntmps35
          go_wp2_with fail
          refine (pipeOk_any t r k HT.out).mono ?_
          rintro e w1 ⟨rfl, hb1⟩
          have HB := Lib.hid (HB0.out.trans (hb1.mono HB0.out.size))
          have X1 := Lib.hid (X0.out.below hb1 X0.out.lt)
          clear hb1
          have x0 := X1.out.cell 0
          have x1 := X1.out.cell 1
          have x2 := X1.out.cell 2
          have xl := X1.out.lt
          simp at x0 x1 x2
          rw [HC.out]
          go_wp2_with fail
          go_quiet (fail)
          go_wp2_with fail
          go_ret2
          exact ⟨rfl, bel_drewN HB.out _⟩
        · have he : (t.toList == ([] : List UInt8)) = false := by rw [emp_list, decide_eq_false h1]
          have he2 : (t.toList != ([] : List UInt8)) = true := by rw [bne, he]; rfl
          have l8 : decide ((t.size : Int) < 8) = false := decide_eq_false (by omega)
          have er : (r == 0) = false := by rw [beq_eq_false_iff_ne]; exact h4
          have HR := Lib.hid (show rdyR t r k = (true, false) by rw [rdy_eq hc]; simp [h1, h3, h4])
          rw [HR.out]
          clear hc h1 h3 h4
          have HB0 := Lib.hid (show Below w.heap.size w (w.alloc (.cells #[.string t, .int .i64 r, .int .i64 k] 24)) from (Below.refl _ _).alloc (Nat.le_refl _) _)
          have X0 := Lib.hid (Box.new w #[.string t, .int .i64 r, .int .i64 k] 24)
          go_enter Try.func35, Try.ntmps35
          go_wp2_with fail
          refine (pipeOk_any t r k HT.out).mono ?_
          rintro e w1 ⟨rfl, hb1⟩
          have HB := Lib.hid (HB0.out.trans (hb1.mono HB0.out.size))
          have X1 := Lib.hid (X0.out.below hb1 X0.out.lt)
          clear hb1
          have x0 := X1.out.cell 0
          have x1 := X1.out.cell 1
          have x2 := X1.out.cell 2
          have xl := X1.out.lt
          simp at x0 x1 x2
          rw [HC.out]
          go_wp2_with fail
          go_quiet (fail)
          go_wp2_with fail
          go_ret2
          exact ⟨rfl, bel_drewN HB.out _⟩
  · have hc' : piB t r k = false := by simpa using hc
    have HC := Lib.hid hc'
    have HR := Lib.hid (show rdyR t r k = (false, false) by unfold rdyR; rw [hc', if_neg Bool.false_ne_true])
    rw [HR.out]
    clear hc hc'
    have HB0 := Lib.hid (show Below w.heap.size w (w.alloc (.cells #[.string t, .int .i64 r, .int .i64 k] 24)) from (Below.refl _ _).alloc (Nat.le_refl _) _)
    have X0 := Lib.hid (Box.new w #[.string t, .int .i64 r, .int .i64 k] 24)
    go_enter Try.func35, Try.ntmps35
    go_wp2_with fail
    refine (pipeOk_any t r k HT.out).mono ?_
    rintro e w1 ⟨rfl, hb1⟩
    have HB := Lib.hid (HB0.out.trans (hb1.mono HB0.out.size))
    have X1 := Lib.hid (X0.out.below hb1 X0.out.lt)
    clear hb1
    have x0 := X1.out.cell 0
    have x1 := X1.out.cell 1
    have x2 := X1.out.cell 2
    have xl := X1.out.lt
    simp at x0 x1 x2
    rw [HC.out]
    go_wp2_with fail
    go_ret2
    exact ⟨rfl, HB.out⟩
end
end Go.Proofs.Ytjjkkfemhfhciaa
