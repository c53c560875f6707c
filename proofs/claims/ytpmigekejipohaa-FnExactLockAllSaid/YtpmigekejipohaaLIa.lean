/-
  Locks: the program's among, ok of a thread, has.
-/
import Derived.Test.YtpmigekejipohaaLIP
import Derived.Test.YtpmigekejipohaaLKit
import Derived.Shelf.Abstract
namespace Go.Proofs.Ytpmigekejipohaa
open Go.RowKit

theorem among_any (n m : Int) (w : World) : Calls Try.prog 49 #[.int .i64 n, .int .i64 m] w fun e w' => e = .returned (.bool (inB n 0 m)) ∧ w = w' := by
  by_cases h1 : 0 ≤ n
  · by_cases h2 : n ≤ m
    · rw [inB_of ⟨h1, h2⟩]
      go_enter Try.func49, Try.ntmps49
      go_wp2
      go_ret
      exact ⟨ret_bool (by simp), rfl⟩
    · rw [inB_not (by omega)]
      go_enter Try.func49, Try.ntmps49
      go_wp2
      go_ret
      exact ⟨ret_bool (by simp), rfl⟩
  · rw [inB_not (by omega)]
    go_enter Try.func49, Try.ntmps49
    go_wp2
    go_ret
    exact ⟨ret_bool (by simp), rfl⟩
set_option maxHeartbeats 2000000 in
theorem okT_any (t : EThread) (w : World) : Calls Try.prog 55 #[.agg #[.int .i64 t.f0, .int .i64 t.f1, .int .i64 t.f2, .bool t.f3]] w fun e w' => e = .returned (.bool (tokI t)) ∧ Below w.heap.size w w' := by
  have HB := Lib.hid (show Below w.heap.size w (w.alloc (.cells #[.int .i64 t.f0, .int .i64 t.f1, .int .i64 t.f2, .bool t.f3] 41)) from (Below.refl _ _).alloc (Nat.le_refl _) _)
  obtain ⟨b, hb⟩ : ∃ b, tokI t = b := ⟨_, rfl⟩
  rw [hb]
  have HT := Lib.hid hb
  clear hb
  obtain ⟨t0, t1, t2, t3⟩ := t
  dsimp only at HB ⊢
  obtain ⟨a0, h0⟩ : ∃ a, inB t0 0 6 = a := ⟨_, rfl⟩
  obtain ⟨a1, h1⟩ : ∃ a, inB t1 0 2 = a := ⟨_, rfl⟩
  obtain ⟨a2, h2⟩ : ∃ a, inB t2 0 3 = a := ⟨_, rfl⟩
  have H0 := Lib.hid h0
  have H1 := Lib.hid h1
  have H2 := Lib.hid h2
  have HT2 := Lib.hid (show b = (a0 && (a1 && (a2 && ((decide (t1 = 0) || decide (t0 = 1)) && ((!t3 || decide (t0 = 3)) && (decide (t0 = 0) || decide (0 < t2))))))) from by
    rw [← HT.out]; unfold tokI; dsimp only; rw [h0, h1, h2])
  clear h0 h1 h2 HT
  cases a0
  · obtain rfl : b = false := by rw [HT2.out]; rfl
    go_enter Try.func55, Try.ntmps55
    go_wp2_with fail
    refine (among_any _ _ _).mono ?_
    rw [H0.out]
    rintro e w1 ⟨rfl, rfl⟩
    go_wp2_with fail
    go_ret
    exact ⟨rfl, HB.out⟩
  cases a1
  · obtain rfl : b = false := by rw [HT2.out]; rfl
    go_enter Try.func55, Try.ntmps55
    go_wp2_with fail
    refine (among_any _ _ _).mono ?_
    rw [H0.out]
    rintro e w1 ⟨rfl, rfl⟩
    go_wp2_with fail
    refine (among_any _ _ _).mono ?_
    rw [H1.out]
    rintro e w1 ⟨rfl, rfl⟩
    go_wp2_with fail
    go_ret
    exact ⟨rfl, HB.out⟩
  cases a2
  · obtain rfl : b = false := by rw [HT2.out]; rfl
    go_enter Try.func55, Try.ntmps55
    go_wp2_with fail
    refine (among_any _ _ _).mono ?_
    rw [H0.out]
    rintro e w1 ⟨rfl, rfl⟩
    go_wp2_with fail
    refine (among_any _ _ _).mono ?_
    rw [H1.out]
    rintro e w1 ⟨rfl, rfl⟩
    go_wp2_with fail
    refine (among_any _ _ _).mono ?_
    rw [H2.out]
    rintro e w1 ⟨rfl, rfl⟩
    go_wp2_with fail
    go_ret
    exact ⟨rfl, HB.out⟩
  have HT3 := Lib.hid (show b = ((decide (t1 = 0) || decide (t0 = 1)) && ((!t3 || decide (t0 = 3)) && (decide (t0 = 0) || decide (0 < t2)))) from by rw [HT2.out]; rfl)
  clear HT2
  go_enter Try.func55, Try.ntmps55
  go_wp2_with fail
  refine (among_any _ _ _).mono ?_
  rw [H0.out]
  rintro e w1 ⟨rfl, rfl⟩
  go_wp2_with fail
  refine (among_any _ _ _).mono ?_
  rw [H1.out]
  rintro e w1 ⟨rfl, rfl⟩
  go_wp2_with fail
  refine (among_any _ _ _).mono ?_
  rw [H2.out]
  rintro e w1 ⟨rfl, rfl⟩
  clear H0 H1 H2
  by_cases k1 : t1 = 0
  · subst k1
    cases t3
    · by_cases k0 : t0 = 0
      · subst k0
        obtain rfl : b = true := by rw [HT3.out]; rfl
        go_wp2_with fail
        go_ret
        exact ⟨rfl, HB.out⟩
      · by_cases k2 : 0 < t2
        · obtain rfl : b = true := by rw [HT3.out]; simp [k2]
          go_wp2_with fail
          go_ret
          exact ⟨ret_bool (by simp []), HB.out⟩
        · obtain rfl : b = false := by rw [HT3.out]; simp [k2, k0]
          go_wp2_with fail
          go_ret
          exact ⟨ret_bool (by simp [k0]; omega), HB.out⟩
    · by_cases k3 : t0 = 3
      · subst k3
        by_cases k2 : 0 < t2
        · obtain rfl : b = true := by rw [HT3.out]; simp [k2]
          go_wp2_with fail
          go_ret
          exact ⟨ret_bool (by simp []), HB.out⟩
        · obtain rfl : b = false := by rw [HT3.out]; simp [k2]
          go_wp2_with fail
          go_ret
          exact ⟨ret_bool (by simp; omega), HB.out⟩
      · obtain rfl : b = false := by rw [HT3.out]; simp [k3]
        go_wp2_with fail
        go_ret
        exact ⟨rfl, HB.out⟩
  · by_cases k4 : t0 = 1
    · subst k4
      cases t3
      · by_cases k2 : 0 < t2
        · obtain rfl : b = true := by rw [HT3.out]; simp [k2]
          go_wp2_with fail
          go_ret
          exact ⟨ret_bool (by simp []), HB.out⟩
        · obtain rfl : b = false := by rw [HT3.out]; simp [k2]
          go_wp2_with fail
          go_ret
          exact ⟨ret_bool (by simp; omega), HB.out⟩
      · obtain rfl : b = false := by rw [HT3.out]; simp
        go_wp2_with fail
        go_ret
        exact ⟨rfl, HB.out⟩
    · obtain rfl : b = false := by rw [HT3.out]; simp [k1, k4]
      have e1 : (t1 != 0) = true := by simpa using k1
      have e2 : (t0 != 1) = true := by simpa using k4
      go_wp2_with fail
      go_ret
      exact ⟨rfl, HB.out⟩
/-- the function that says whether a thread may not be in a lock -/
theorem okLit_any (t : EThread) (w : World) : Calls Try.prog 54 #[.agg #[.int .i64 t.f0, .int .i64 t.f1, .int .i64 t.f2, .bool t.f3]] w fun e w' => e = .returned (.bool (!tokI t)) ∧ Below w.heap.size w w' := by
  have HB := Lib.hid (show Below w.heap.size w (w.alloc (.cells #[.int .i64 t.f0, .int .i64 t.f1, .int .i64 t.f2, .bool t.f3] 41)) from (Below.refl _ _).alloc (Nat.le_refl _) _)
  have hok := okT_any t
  generalize tokI t = b at hok ⊢
  have HOK := Lib.hid hok
  clear hok
  go_enter Try.func54, Try.ntmps54
  go_wp2_with fail
  refine (HOK.out _).mono ?_
  rintro e w1 ⟨rfl, hb1⟩
  have HB1 := Lib.hid (HB.out.trans (hb1.mono HB.out.size))
  clear hb1
  go_wp2_with fail
  go_ret
  exact ⟨rfl, HB1.out⟩
theorem has_any {w : World} {W : Int} {A A2 : Option Addr} {n c n2 c2 : Nat} (x : Int) (hn : n ≤ maxLen) :
    Calls Try.prog 61 #[.agg #[.int .i64 W, .slice A n c, .slice A2 n2 c2], .int .i64 x] w fun e w' => e = .returned (.bool (inB x 0 ((n : Int) - 1))) ∧ Below w.heap.size w w' := by
  have HB := Lib.hid (show Below w.heap.size w (w.alloc (.cells #[.int .i64 W, .slice A n c, .slice A2 n2 c2] 28)) from (Below.refl _ _).alloc (Nat.le_refl _) _)
  unfold maxLen at hn
  have hw1 : IntKind.i64.wrap ((n : Int) - 1) = (n : Int) - 1 := IntWalk.i64_in _ (by omega)
  go_enter Try.func61, Try.ntmps61
  go_wp2_with fail
  refine (among_any _ _ _).mono ?_
  rintro e w1 ⟨rfl, rfl⟩
  go_wp2_with fail
  go_ret
  exact ⟨rfl, HB.out⟩
end Go.Proofs.Ytpmigekejipohaa
