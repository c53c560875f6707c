/-
  The model's functions of chapter 9.
-/
import Derived.Test.YtjjkkfemhfhciaaIPure
import Derived.Deep.RegionHeld3
import Derived.Deep.RegionWith
namespace Go.Proofs.Ytjjkkfemhfhciaa
open Go.RowKit

section
variable {w : World}
set_option maxHeartbeats 1000000 in
theorem pipeOk_any : IOk 20 := by
  intro w t r k ht
  have hS : piB t r k = (decide (t.size ≤ 8) && (inB r 0 99 && (inB k 0 99 && (decide (0 < r) || decide (t.size = 0))))) := rfl
  have HS := Lib.hid hS
  have HB := Lib.hid (show Below w.heap.size w (w.alloc (.cells #[.string t, .int .i64 r, .int .i64 k] 24)) from (Below.refl _ _).alloc (Nat.le_refl _) _)
  have hn : t.size ≤ 9223372036854775807 := by unfold maxLen at ht; omega
  clear hS ht
  by_cases h1 : t.size ≤ 8
  · have h1' : (t.size : Int) ≤ 8 := by omega
    go_enter Try.func20, Try.ntmps20
    go_wp2_with fail
    refine (l6In_any r 0 99 _).mono ?_
    rintro e w1 ⟨rfl, rfl⟩
    by_cases h2 : inB r 0 99 = true
    · rw [h2]
      go_wp2_with fail
      refine (l6In_any k 0 99 _).mono ?_
      rintro e w1 ⟨rfl, rfl⟩
      by_cases h3 : inB k 0 99 = true
      · rw [h3]
        by_cases h4 : 0 < r
        · go_wp2_with fail
          go_ret
          exact ⟨ret_bool (by rw [HS.out, decide_eq_true h1, h2, h3, decide_eq_true h4]; rfl), HB.out⟩
        · have e4 : Hid (decide (0 < r) = false) := Lib.hid (decide_eq_false h4)
          by_cases h5 : t.size = 0
          · have he : (t.toList == ([] : List UInt8)) = true := by rw [emp_list, decide_eq_true h5]
            go_wp2_with fail
            go_ret
            exact ⟨ret_bool (by rw [HS.out, decide_eq_true h1, h2, h3, decide_eq_true h5, Bool.or_true]; rfl), HB.out⟩
          · have he : (t.toList == ([] : List UInt8)) = false := by rw [emp_list, decide_eq_false h5]
            go_wp2_with fail
            go_ret
            exact ⟨ret_bool (by rw [HS.out, decide_eq_true h1, h2, h3, e4.out, decide_eq_false h5]; rfl), HB.out⟩
      · have h3' : inB k 0 99 = false := by simpa using h3
        rw [h3']
        go_wp2_with fail
        go_ret
        exact ⟨ret_bool (by rw [HS.out, decide_eq_true h1, h2, h3']; rfl), HB.out⟩
    · have h2' : inB r 0 99 = false := by simpa using h2
      rw [h2']
      go_wp2_with fail
      go_ret
      exact ⟨ret_bool (by rw [HS.out, decide_eq_true h1, h2']; rfl), HB.out⟩
  · have h1' : ¬ ((t.size : Int) ≤ 8) := by omega
    go_enter Try.func20, Try.ntmps20
    go_wp2_with fail
    go_ret
    exact ⟨ret_bool (by rw [HS.out, decide_eq_false h1]; rfl), HB.out⟩

theorem ret_t3 {a a' : ByteArray} {b b' c c' d d' e e' : Int} (h : ((a, b, c), d, e) = ((a', b', c'), d', e')) : Ending.returned (.tuple #[.agg #[.string a, .int .i64 b, .int .i64 c], .int .i64 d, .int .i64 e]) = .returned (.tuple #[.agg #[.string a', .int .i64 b', .int .i64 c'], .int .i64 d', .int .i64 e']) := by
  simp only [Prod.mk.injEq] at h
  obtain ⟨⟨rfl, rfl, rfl⟩, rfl, rfl⟩ := h
  rfl
theorem ret_s3 {a a' f f' : ByteArray} {b b' c c' e e' : Int} (h : ((a, b, c), f, e) = ((a', b', c'), f', e')) : Ending.returned (.tuple #[.agg #[.string a, .int .i64 b, .int .i64 c], .string f, .int .i64 e]) = .returned (.tuple #[.agg #[.string a', .int .i64 b', .int .i64 c'], .string f', .int .i64 e']) := by
  simp only [Prod.mk.injEq] at h
  obtain ⟨⟨rfl, rfl, rfl⟩, rfl, rfl⟩ := h
  rfl
theorem ret_b3 {a a' : ByteArray} {b b' c c' : Int} {e e' : Bool} (h : ((a, b, c), e) = ((a', b', c'), e')) : Ending.returned (.tuple #[.agg #[.string a, .int .i64 b, .int .i64 c], .bool e]) = .returned (.tuple #[.agg #[.string a', .int .i64 b', .int .i64 c'], .bool e']) := by
  simp only [Prod.mk.injEq] at h
  obtain ⟨⟨rfl, rfl, rfl⟩, rfl⟩ := h
  rfl

set_option maxHeartbeats 2000000 in
theorem l9Put_any (t : ByteArray) (r k : Int) (x : ByteArray) (ht : t.size ≤ 8) (hx : x.size ≤ maxLen) :
    Calls Try.prog 47 #[.agg #[.string t, .int .i64 r, .int .i64 k], .string x] w fun e w' => e = .returned (.tuple #[.agg #[.string (putI t r k x).1.1, .int .i64 (putI t r k x).1.2.1, .int .i64 (putI t r k x).1.2.2], .int .i64 (putI t r k x).2.1, .int .i64 (putI t r k x).2.2]) ∧ Below w.heap.size w w' := by
  have HB := Lib.hid (Below.refl w.heap.size w)
  have hS : putI t r k x = putI t r k x := rfl
  conv at hS => rhs; unfold putI
  have HS := Lib.hid hS
  have hn : x.size ≤ 9223372036854775807 := by unfold maxLen at hx; omega
  clear hS hx
  by_cases h1 : r = 0
  · rw [if_pos h1] at HS
    rw [HS.out]
    subst h1
    go_enter Try.func47, Try.ntmps47
    go_wp2_with fail
    exact bodyPost_ret (v := .tuple #[.agg #[.string (t), .int .i64 (0), .int .i64 (k)], .int .i64 0, .int .i64 4]) (by simp [results, Try.results47, go_sem]) rfl ⟨rfl, (by repeat (first | exact HB.out | exact Below.refl _ _ | refine Below.setCell ?_ (by first | exact Nat.le_refl _ | exact Nat.le_add_right _ _ | (simp only [World.size_alloc]; omega) | (simp only [World.size_setCell]; omega) | (simp only [World.size_alloc, World.size_setCell]; omega) | omega) _ | refine Below.alloc ?_ (by first | exact Nat.le_refl _ | exact Nat.le_add_right _ _ | (simp only [World.size_alloc]; omega) | (simp only [World.size_setCell]; omega) | (simp only [World.size_alloc, World.size_setCell]; omega) | omega) _ | refine Below.drew ?_))⟩
  have e1 : (r == 0) = false := by rw [beq_eq_false_iff_ne]; exact h1
  rw [if_neg h1] at HS
  clear h1
  by_cases h2 : x.size = 0
  · rw [if_pos h2] at HS
    rw [HS.out]
    have he : (x.toList == ([] : List UInt8)) = true := by rw [emp_list, decide_eq_true h2]
    clear h2
    go_enter Try.func47, Try.ntmps47
    go_wp2_with fail
    exact bodyPost_ret (v := .tuple #[.agg #[.string (t), .int .i64 (r), .int .i64 (k)], .int .i64 0, .int .i64 0]) (by simp [results, Try.results47, go_sem]) rfl ⟨rfl, (by repeat (first | exact HB.out | exact Below.refl _ _ | refine Below.setCell ?_ (by first | exact Nat.le_refl _ | exact Nat.le_add_right _ _ | (simp only [World.size_alloc]; omega) | (simp only [World.size_setCell]; omega) | (simp only [World.size_alloc, World.size_setCell]; omega) | omega) _ | refine Below.alloc ?_ (by first | exact Nat.le_refl _ | exact Nat.le_add_right _ _ | (simp only [World.size_alloc]; omega) | (simp only [World.size_setCell]; omega) | (simp only [World.size_alloc, World.size_setCell]; omega) | omega) _ | refine Below.drew ?_))⟩
  have he : (x.toList == ([] : List UInt8)) = false := by rw [emp_list, decide_eq_false h2]
  rw [if_neg h2] at HS
  obtain ⟨m, hm⟩ : ∃ m : Nat, 8 - t.size = m := ⟨_, rfl⟩
  have hm2 : (8 : Int) - (t.size : Int) = (m : Int) := by omega
  by_cases h3 : t.size = 8
  · rw [if_pos (Or.inl h3)] at HS
    rw [HS.out]
    obtain rfl : m = 0 := by omega
    clear h2 h3 hm
    go_enter Try.func47, Try.ntmps47
    go_wp2_with fail
    exact bodyPost_ret (v := .tuple #[.agg #[.string (t), .int .i64 (r), .int .i64 (k)], .int .i64 0, .int .i64 2]) (by simp [results, Try.results47, go_sem]) rfl ⟨rfl, (by repeat (first | exact HB.out | exact Below.refl _ _ | refine Below.setCell ?_ (by first | exact Nat.le_refl _ | exact Nat.le_add_right _ _ | (simp only [World.size_alloc]; omega) | (simp only [World.size_setCell]; omega) | (simp only [World.size_alloc, World.size_setCell]; omega) | omega) _ | refine Below.alloc ?_ (by first | exact Nat.le_refl _ | exact Nat.le_add_right _ _ | (simp only [World.size_alloc]; omega) | (simp only [World.size_setCell]; omega) | (simp only [World.size_alloc, World.size_setCell]; omega) | omega) _ | refine Below.drew ?_))⟩
  have h30 : ¬ (m : Int) = 0 := by omega
  have e4 : ((m : Int) == 0) = false := by rw [beq_eq_false_iff_ne]; exact h30
  by_cases h4 : m < x.size
  · by_cases h5 : x.size ≤ 4
    · have l5 : (x.size : Int) ≤ 4 := by omega
      rw [if_pos (Or.inr ⟨by omega, h5⟩)] at HS
      rw [HS.out]
      clear h2 h3 hm h30
      go_enter Try.func47, Try.ntmps47
      go_wp2_with fail
      exact bodyPost_ret (v := .tuple #[.agg #[.string (t), .int .i64 (r), .int .i64 (k)], .int .i64 0, .int .i64 2]) (by simp [results, Try.results47, go_sem]) rfl ⟨rfl, (by repeat (first | exact HB.out | exact Below.refl _ _ | refine Below.setCell ?_ (by first | exact Nat.le_refl _ | exact Nat.le_add_right _ _ | (simp only [World.size_alloc]; omega) | (simp only [World.size_setCell]; omega) | (simp only [World.size_alloc, World.size_setCell]; omega) | omega) _ | refine Below.alloc ?_ (by first | exact Nat.le_refl _ | exact Nat.le_add_right _ _ | (simp only [World.size_alloc]; omega) | (simp only [World.size_setCell]; omega) | (simp only [World.size_alloc, World.size_setCell]; omega) | omega) _ | refine Below.drew ?_))⟩
    · have l5 : ¬ ((x.size : Int) ≤ 4) := by omega
      rw [if_neg (by omega), hm, Nat.min_eq_left (by omega)] at HS
      rw [HS.out]
      have q1 : (0 : Int) ≤ (m : Int) := by omega
      have q2 : (m : Int) ≤ (x.size : Int) := by omega
      have q3 : (9223372036854775807 < t.size + min m x.size) = False := eq_false (by omega)
      have HX := Lib.hid hn
      clear h2 h3 hm h30
      go_enter Try.func47, Try.ntmps47
      go_wp2_with fail
      go_region_with (fail)
      all_goals
        go_wp2_with fail
        exact bodyPost_ret (v := .tuple #[.agg #[.string (t ++ x.extract 0 m), .int .i64 (r), .int .i64 (k)], .int .i64 m, .int .i64 0]) (by simp [results, Try.results47, go_sem]) rfl ⟨rfl, (by repeat (first | exact HB.out | exact Below.refl _ _ | refine Below.setCell ?_ (by first | exact Nat.le_refl _ | exact Nat.le_add_right _ _ | (simp only [World.size_alloc]; omega) | (simp only [World.size_setCell]; omega) | (simp only [World.size_alloc, World.size_setCell]; omega) | omega) _ | refine Below.alloc ?_ (by first | exact Nat.le_refl _ | exact Nat.le_add_right _ _ | (simp only [World.size_alloc]; omega) | (simp only [World.size_setCell]; omega) | (simp only [World.size_alloc, World.size_setCell]; omega) | omega) _ | refine Below.drew ?_))⟩
  · have l4 : x.size ≤ m := by omega
    rw [if_neg (by omega), hm, Nat.min_eq_right (by omega)] at HS
    rw [HS.out]
    have q1 : (0 : Int) ≤ (x.size : Int) := by omega
    have q3 : (9223372036854775807 < t.size + min x.size x.size) = False := eq_false (by omega)
    have q4 : (9223372036854775807 < t.size + x.size) = False := eq_false (by omega)
    by_cases h6 : m = x.size
    · subst h6
      have HX := Lib.hid hn
      clear h2 h3 hm h30
      go_enter Try.func47, Try.ntmps47
      go_wp2_with fail
      go_region_with (fail)
      all_goals
        go_wp2_with fail
        exact bodyPost_ret (v := .tuple #[.agg #[.string (t ++ x.extract 0 x.size), .int .i64 (r), .int .i64 (k)], .int .i64 x.size, .int .i64 0]) (by simp [results, Try.results47, go_sem]) rfl ⟨rfl, (by repeat (first | exact HB.out | exact Below.refl _ _ | refine Below.setCell ?_ (by first | exact Nat.le_refl _ | exact Nat.le_add_right _ _ | (simp only [World.size_alloc]; omega) | (simp only [World.size_setCell]; omega) | (simp only [World.size_alloc, World.size_setCell]; omega) | omega) _ | refine Below.alloc ?_ (by first | exact Nat.le_refl _ | exact Nat.le_add_right _ _ | (simp only [World.size_alloc]; omega) | (simp only [World.size_setCell]; omega) | (simp only [World.size_alloc, World.size_setCell]; omega) | omega) _ | refine Below.drew ?_))⟩
    · have l6 : x.size < m := by omega
      have HX := Lib.hid hn
      clear h2 h3 hm h30
      go_enter Try.func47, Try.ntmps47
      go_wp2_with fail
      go_region_with (fail)
      all_goals
        go_wp2_with fail
        exact bodyPost_ret (v := .tuple #[.agg #[.string (t ++ x.extract 0 x.size), .int .i64 (r), .int .i64 (k)], .int .i64 x.size, .int .i64 0]) (by simp [results, Try.results47, go_sem]) rfl ⟨rfl, (by repeat (first | exact HB.out | exact Below.refl _ _ | refine Below.setCell ?_ (by first | exact Nat.le_refl _ | exact Nat.le_add_right _ _ | (simp only [World.size_alloc]; omega) | (simp only [World.size_setCell]; omega) | (simp only [World.size_alloc, World.size_setCell]; omega) | omega) _ | refine Below.alloc ?_ (by first | exact Nat.le_refl _ | exact Nat.le_add_right _ _ | (simp only [World.size_alloc]; omega) | (simp only [World.size_setCell]; omega) | (simp only [World.size_alloc, World.size_setCell]; omega) | omega) _ | refine Below.drew ?_))⟩

theorem pi_size {t : ByteArray} {r k : Int} (h : piB t r k = true) : t.size ≤ 8 := by
  unfold piB at h
  exact of_decide_eq_true (Bool.and_eq_true _ _ ▸ h).1
theorem pi_in {t : ByteArray} {r k : Int} (h : piB t r k = true) : (0 ≤ r ∧ r ≤ 99) ∧ 0 ≤ k ∧ k ≤ 99 := by
  unfold piB at h
  rw [Bool.and_eq_true, Bool.and_eq_true, Bool.and_eq_true] at h
  exact ⟨of_inB h.2.1, of_inB h.2.2.1⟩
end
end Go.Proofs.Ytjjkkfemhfhciaa
