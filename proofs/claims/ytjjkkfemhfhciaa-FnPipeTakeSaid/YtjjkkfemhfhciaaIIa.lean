/-
  The program's small functions of pipes, and PipeOk.
-/
import Derived.Test.YtjjkkfemhfhciaaIS4
import Derived.Test.YtjjkkfemhfhciaaIS6
import Derived.Deep.RegionWith
import Derived.BigRegion
namespace Go.Proofs.Ytjjkkfemhfhciaa
open Go.RowKit

section
variable {w : World}
theorem sideOkI (n : Int) (w : World) :
    Calls Try.prog 41 #[.int .i64 n] w fun e w' => e = .returned (.bool (inB n 0 99)) ∧ w = w' := by
  by_cases h1 : 0 ≤ n
  · by_cases h2 : n ≤ 99
    · rw [inB_of ⟨h1, h2⟩]
      go_enter Try.func41, Try.ntmps41
      go_wp2
      go_ret
      exact ⟨rfl, rfl⟩
    · rw [inB_not (by omega)]
      go_enter Try.func41, Try.ntmps41
      go_wp2
      go_ret
      exact ⟨rfl, rfl⟩
  · rw [inB_not (by omega)]
    go_enter Try.func41, Try.ntmps41
    go_wp2
    go_ret
    exact ⟨rfl, rfl⟩

theorem roomI (t : ByteArray) (m : Nat) (hm : m + t.size = 8) (w : World) :
    Calls Try.prog 53 #[.string t] w fun e w' => e = .returned (.int .i64 m) ∧ w = w' := by
  have hm2 : (8 : Int) - (t.size : Int) = (m : Int) := by omega
  have h8 : m ≤ 8 := by omega
  clear hm
  go_enter Try.func53, Try.ntmps53
  go_wp2_with fail
  go_ret
  exact ⟨rfl, rfl⟩

/-- how many bytes of a text may be put -/
def fitN (t x : ByteArray) : Nat := if x.size ≤ 4 ∧ 8 - t.size < x.size then 0 else min x.size (8 - t.size)
theorem fit_le (t x : ByteArray) : fitN t x ≤ x.size ∧ fitN t x ≤ 8 - t.size := by
  unfold fitN
  split <;> omega

set_option maxHeartbeats 2000000 in
theorem fitsI (t x : ByteArray) (ht : t.size ≤ 8) (hx : x.size ≤ maxLen) (w : World) :
    Calls Try.prog 54 #[.string t, .string x] w fun e w' => e = .returned (.int .i64 (fitN t x)) ∧ Below w.heap.size w w' := by
  have hS : fitN t x = if x.size ≤ 4 ∧ 8 - t.size < x.size then 0 else min x.size (8 - t.size) := rfl
  have HS := Lib.hid hS
  have HB := Lib.hid (Below.refl w.heap.size w)
  obtain ⟨m, hm⟩ : ∃ m : Nat, m + t.size = 8 := ⟨8 - t.size, by omega⟩
  have hn : x.size ≤ 9223372036854775807 := by unfold maxLen at hx; omega
  have HM := Lib.hid hm
  clear hS hx
  by_cases h1 : x.size ≤ 4
  · have l1 : (x.size : Int) ≤ 4 := by omega
    by_cases h2 : m < x.size
    · have l2 : (m : Int) < (x.size : Int) := by omega
      rw [if_pos ⟨h1, by omega⟩] at HS
      rw [HS.out]
      clear hm ht h1 h2
      go_enter Try.func54, Try.ntmps54
      go_wp2_with fail
      refine (roomI t m HM.out _).mono ?_
      rintro e w1 ⟨rfl, rfl⟩
      go_wp2_with fail
      go_ret
      exact ⟨rfl, HB.out⟩
    · have l2 : ¬ ((m : Int) < (x.size : Int)) := by omega
      rw [if_neg (by omega), show 8 - t.size = m by omega, Nat.min_eq_left (by omega)] at HS
      rw [HS.out]
      have l3 : (x.size : Int) ≤ (m : Int) := by omega
      clear hm ht h1 h2
      go_enter Try.func54, Try.ntmps54
      go_wp2_with fail
      refine (roomI t m HM.out _).mono ?_
      rintro e w1 ⟨rfl, rfl⟩
      go_wp2_with fail
      refine (roomI t m HM.out _).mono ?_
      rintro e w1 ⟨rfl, rfl⟩
      go_wp2_with fail
      go_ret
      exact ⟨rfl, HB.out⟩
  · have l1 : ¬ ((x.size : Int) ≤ 4) := by omega
    rw [if_neg (by omega), show 8 - t.size = m by omega] at HS
    rw [HS.out]
    clear hm ht h1
    by_cases h3 : x.size ≤ m
    · rw [Nat.min_eq_left h3]
      have l3 : (x.size : Int) ≤ (m : Int) := by omega
      clear h3
      go_enter Try.func54, Try.ntmps54
      go_wp2_with fail
      refine (roomI t m HM.out _).mono ?_
      rintro e w1 ⟨rfl, rfl⟩
      go_wp2_with fail
      go_ret
      exact ⟨rfl, HB.out⟩
    · rw [Nat.min_eq_right (by omega)]
      have l3 : ¬ ((x.size : Int) ≤ (m : Int)) := by omega
      clear h3
      go_enter Try.func54, Try.ntmps54
      go_wp2_with fail
      refine (roomI t m HM.out _).mono ?_
      rintro e w1 ⟨rfl, rfl⟩
      go_wp2_with fail
      go_ret
      exact ⟨rfl, HB.out⟩

set_option maxHeartbeats 2000000 in
theorem winPutI (t x : ByteArray) (ht : t.size ≤ 8) (hx : x.size ≤ maxLen) (w : World) :
    Calls Try.prog 46 #[.string t, .string x] w fun e w' => e = .returned (.tuple #[.string (t ++ x.extract 0 (fitN t x)), .int .i64 (fitN t x)]) ∧ Below w.heap.size w w' := by
  have HF := Lib.hid (fitsI t x ht hx)
  obtain ⟨h1, h2⟩ := fit_le t x
  have hn : x.size ≤ 9223372036854775807 := by unfold maxLen at hx; omega
  generalize fitN t x = m at HF h1 h2
  have q1 : (0 : Int) ≤ (m : Int) := by omega
  have q2 : (m : Int) ≤ (x.size : Int) := by omega
  have q3 : (9223372036854775807 < t.size + min m x.size) = False := eq_false (by omega)
  clear hx h1 h2 ht
  go_enter Try.func46, Try.ntmps46
  go_wp2_with fail
  refine (HF.out _).mono ?_
  rintro e w1 ⟨rfl, hb1⟩
  have HB := Lib.hid hb1
  clear hb1
  go_wp2_with fail
  exact bodyPost_ret (v := .tuple #[.string (t ++ x.extract 0 m), .int .i64 m]) (by simp [results, Try.results46, go_sem]) rfl ⟨rfl, HB.out⟩

set_option maxHeartbeats 2000000 in
theorem winTakeI (t : ByteArray) (m : Nat) (ht : t.size ≤ 8) (w : World) :
    Calls Try.prog 49 #[.string t, .int .i64 m] w fun e w' => e = .returned (.tuple #[.string (t.extract (min m t.size) t.size), .string (t.extract 0 (min m t.size))]) ∧ Below w.heap.size w w' := by
  have HB := Lib.hid (Below.refl w.heap.size w)
  have q0 : (0 : Int) ≤ (m : Int) := by omega
  by_cases h4 : m ≤ t.size
  · have q1 : (m : Int) ≤ (t.size : Int) := by omega
    rw [Nat.min_eq_left h4]
    go_enter Try.func49, Try.ntmps49
    go_wp2_with fail
    go_quiet (fail)
    go_wp2_with fail
    exact bodyPost_ret (v := .tuple #[.string (t.extract m t.size), .string (t.extract 0 m)]) (by simp [results, Try.results49, go_sem]) rfl ⟨rfl, bel_drewN HB.out _⟩
  · have q1 : t.size < m := by omega
    have q2 : (0 : Int) ≤ (t.size : Int) := by omega
    rw [Nat.min_eq_right (by omega)]
    go_enter Try.func49, Try.ntmps49
    go_wp2_with fail
    go_quiet (fail)
    go_wp2_with fail
    exact bodyPost_ret (v := .tuple #[.string (t.extract t.size t.size), .string (t.extract 0 t.size)]) (by simp [results, Try.results49, go_sem]) rfl ⟨rfl, bel_drewN HB.out _⟩

theorem goneI (t : ByteArray) (r k : Int) (w : World) :
    Calls Try.prog 44 #[.agg #[.string t, .int .i64 r, .int .i64 k]] w fun e w' => e = .returned (.bool (decide (r = 0) && decide (k = 0))) ∧ Below w.heap.size w w' := by
  have HB := Lib.hid (show Below w.heap.size w (w.alloc (.cells #[.string t, .int .i64 r, .int .i64 k] 24)) from (Below.refl _ _).alloc (Nat.le_refl _) _)
  by_cases h1 : r = 0
  · subst h1
    by_cases h2 : k = 0
    · subst h2
      go_enter Try.func44, Try.ntmps44
      go_wp2_with fail
      go_ret
      exact ⟨rfl, HB.out⟩
    · have e2 : (k == 0) = false := by rw [beq_eq_false_iff_ne]; exact h2
      have e3 := Lib.hid (decide_eq_false h2)
      clear h2
      go_enter Try.func44, Try.ntmps44
      go_wp2_with fail
      go_ret
      exact ⟨ret_bool (by rw [e3.out]; rfl), HB.out⟩
  · have e2 : (r == 0) = false := by rw [beq_eq_false_iff_ne]; exact h1
    have e3 := Lib.hid (decide_eq_false h1)
    clear h1
    go_enter Try.func44, Try.ntmps44
    go_wp2_with fail
    go_ret
    exact ⟨ret_bool (by rw [e3.out]; rfl), HB.out⟩

theorem sideI {B : Nat} {t : ByteArray} {r k : Int} (w : World) (hb : Box w B #[.string t, .int .i64 r, .int .i64 k] 24) (x : Bool) :
    Calls Try.prog 43 #[.pointer (some ⟨B, 0, none⟩), .bool x] w fun e w' => e = .returned (.pointer (some ⟨B, if x = true then 1 else 2, none⟩)) ∧ w = w' := by
  have x0 := hb.cell 0
  have x1 := hb.cell 1
  have x2 := hb.cell 2
  have xl := hb.lt
  simp at x0 x1 x2
  clear hb
  cases x
  · go_enter Try.func43, Try.ntmps43
    go_wp2_with fail
    go_ret
    exact ⟨rfl, rfl⟩
  · go_enter Try.func43, Try.ntmps43
    go_wp2_with fail
    go_ret
    exact ⟨rfl, rfl⟩

set_option maxHeartbeats 1000000 in
theorem pipeOkI : IOk 19 := by
  intro w t r k ht
  have hS : piB t r k = (decide (t.size ≤ 8) && (inB r 0 99 && (inB k 0 99 && (decide (0 < r) || decide (t.size = 0))))) := rfl
  have HS := Lib.hid hS
  have HB := Lib.hid (show Below w.heap.size w (w.alloc (.cells #[.string t, .int .i64 r, .int .i64 k] 24)) from (Below.refl _ _).alloc (Nat.le_refl _) _)
  have hn : t.size ≤ 9223372036854775807 := by unfold maxLen at ht; omega
  clear hS ht
  go_enter Try.func19, Try.ntmps19
  go_wp2_with fail
  refine (sideOkI r _).mono ?_
  rintro e w1 ⟨rfl, rfl⟩
  by_cases h2 : inB r 0 99 = true
  · rw [h2]
    go_wp2_with fail
    refine (sideOkI k _).mono ?_
    rintro e w1 ⟨rfl, rfl⟩
    by_cases h3 : inB k 0 99 = true
    · rw [h3]
      by_cases h1 : t.size ≤ 8
      · have h1' : ¬ ((8 : Int) < (t.size : Int)) := by omega
        by_cases h4 : 0 < r
        · go_wp2_with fail
          go_ret
          exact ⟨ret_bool (by rw [HS.out, decide_eq_true h1, h2, h3, decide_eq_true h4]; rfl), HB.out⟩
        · have e4 : Hid (decide (0 < r) = false) := Lib.hid (decide_eq_false h4)
          by_cases h5 : t.size = 0
          · have he : (t.toList == ([] : List UInt8)) = true := by rw [emp_list, decide_eq_true h5]
            go_wp2_with fail
            go_ret
            exact ⟨ret_bool (by rw [HS.out, decide_eq_true h1, h2, h3, decide_eq_true h5, Bool.or_true]; rfl), HB.out⟩
          · have he : (t.toList == ([] : List UInt8)) = false := by rw [emp_list, decide_eq_false h5]
            go_wp2_with fail
            go_ret
            exact ⟨ret_bool (by rw [HS.out, decide_eq_true h1, h2, h3, e4.out, decide_eq_false h5]; rfl), HB.out⟩
      · have h1' : (8 : Int) < (t.size : Int) := by omega
        go_wp2_with fail
        go_ret
        exact ⟨ret_bool (by rw [HS.out, decide_eq_false h1]; rfl), HB.out⟩
    · have h3' : inB k 0 99 = false := by simpa using h3
      rw [h3']
      go_wp2_with fail
      go_ret
      exact ⟨ret_bool (by rw [HS.out, h2, h3', Bool.false_and, Bool.and_false, Bool.and_false]), HB.out⟩
  · have h2' : inB r 0 99 = false := by simpa using h2
    rw [h2']
    go_wp2_with fail
    go_ret
    exact ⟨ret_bool (by rw [HS.out, h2', Bool.false_and, Bool.and_false]), HB.out⟩
end
end Go.Proofs.Ytjjkkfemhfhciaa
