/-
  The walk of FnPipeTake.
-/
import Derived.Test.YtjjkkfemhfhciaaIDraw2
import Derived.Test.YtjjkkfemhfhciaaIEx
namespace Go.Proofs.Ytjjkkfemhfhciaa
open Go.RowKit

section
variable {A : Option Addr} {n c : Nat} {w : World}
theorem pi_cut {t : ByteArray} {r k : Int} (h : piB t r k = true) (n : Nat) : piB (t.extract n t.size) r k = true := by
  unfold piB at h ⊢
  simp only [Bool.and_eq_true, Bool.or_eq_true, decide_eq_true_eq, ByteArray.size_extract] at h ⊢
  refine ⟨by omega, h.2.1, h.2.2.1, ?_⟩
  rcases h.2.2.2 with h1 | h1
  · exact Or.inl h1
  · exact Or.inr (by omega)
theorem tak_fine {t : ByteArray} {r k m : Int} (h : (takR t r k m).2.2 = 0) : ∃ n : Nat, n ≤ t.size ∧ (n : Int) = min m (t.size : Int) ∧ 0 ≤ m ∧ t.size ≤ 8 ∧ piB t r k = true ∧ piB (t.extract n t.size) r k = true ∧ takR t r k m = ((t.extract n t.size, r, k), t.extract 0 n, 0) := by
  unfold takR at h ⊢
  by_cases hc : (piB t r k && (!decide (r = 0) && decide (0 ≤ m))) = true
  case neg => rw [if_neg hc] at h; simp at h
  rw [if_pos hc] at h ⊢
  rw [Bool.and_eq_true, Bool.and_eq_true] at hc
  obtain ⟨hp, hr, hm⟩ := hc
  have hm0 : 0 ≤ m := of_decide_eq_true hm
  have h8 := pi_size hp
  unfold takI at h ⊢
  by_cases h1 : m = 0
  · rw [if_pos h1]
    refine ⟨0, by omega, by omega, hm0, h8, hp, pi_cut hp 0, ?_⟩
    rw [ByteArray.extract_zero_size]
    simp only [Prod.mk.injEq, and_true, true_and]
    apply ByteArray.ext
    simp
  rw [if_neg h1] at h ⊢
  by_cases h2 : t.size = 0
  case pos =>
    rw [if_pos h2] at h
    by_cases h3 : k = 0
    · rw [if_pos h3] at h; simp at h
    · rw [if_neg h3] at h; simp at h
  rw [if_neg h2]
  exact ⟨min m.toNat t.size, by omega, by omega, hm0, h8, hp, pi_cut hp _, rfl⟩
set_option maxHeartbeats 2000000 in
set_option maxRecDepth 100000 in
theorem dPipeTake_walk (hm : ITak 27) (ho : IOk 19) (hc : Code w A n) (hcap : n ≤ c) (hcap2 : c ≤ maxLen) : Calls Try.prog 5 #[.slice A n c] w fun e w' => e = .returned (.bool true) ∧ Below w.heap.size w w' := by
  have hn := hc.1
  unfold maxLen at hn
  by_cases hbig : (1048576 : Int) < n
  · go_enter Try.func5, Try.ntmps5
    go_wp2_with fail
    go_ret
    exact ⟨rfl, Below.refl _ _⟩
  have HCODE := Lib.hid hc
  clear hc
  have HM := Lib.hid hm
  clear hm
  have HO := Lib.hid ho
  clear ho
  have HW0 := Lib.hid (Below.refl w.heap.size w)
  go_enter Try.func5, Try.ntmps5
  have HA0 := Lib.hid (show Below w.heap.size w w from (Below.refl _ _))
  go_wp2_with fail
  refine (dDrawPipeTake_any HCODE.out hcap hcap2).mono ?_
  rintro e w1 ⟨t, r, k, m, rfl, ts, ⟨ra, rb⟩, ⟨ka, kb⟩, m0, m1, hb1⟩
  have HC1 := Lib.hid (HA0.out.trans (hb1.mono HA0.out.size))
  have HW1 := Lib.hid (HW0.out.trans (HC1.out.mono HW0.out.size))
  clear hb1
  have HT := Lib.hid (show t.size ≤ maxLen by unfold maxLen; omega)
  by_cases hp : (takR t r k m).2.2 = 0
  case neg =>
    have he : ((takR t r k m).2.2 == 0) = false := by rw [beq_eq_false_iff_ne]; exact hp
    clear hp
    generalize hRe : takR t r k m = R at he
    have HRE := Lib.hid hRe
    clear hRe
    have HA1 := Lib.hid (show Below w1.heap.size w1 (w1.alloc (.cells #[.string t, .int .i64 r, .int .i64 k] 24)) from ((Below.refl _ _).alloc (Nat.le_refl _) _))
    go_wp2_with fail
    refine (HM.out t r k m HT.out).mono ?_
    rw [HRE.out]
    rintro e w2 ⟨rfl, hb2⟩
    have HC2 := Lib.hid (HA1.out.trans (hb2.mono HA1.out.size))
    have HW2 := Lib.hid (HW1.out.trans (HC2.out.mono HW1.out.size))
    have P_2 := Lib.hid ((Box.new w1 #[.string t, .int .i64 r, .int .i64 k] 24).below hb2 (by simp only [World.size_alloc]; omega))
    clear hb2
    have HA2 := Lib.hid (show Below w2.heap.size w2 (w2.alloc (.cells #[.string (R).1.1, .int .i64 (R).1.2.1, .int .i64 (R).1.2.2] 24)) from ((Below.refl _ _).alloc (Nat.le_refl _) _))
    have p_c0 := P_2.out.cell 0
    have p_c1 := P_2.out.cell 1
    have p_c2 := P_2.out.cell 2
    simp at p_c0 p_c1 p_c2
    have p_l := P_2.out.lt
    go_wp2_with fail
    refine (pipeTake_any t r k m HT.out).mono ?_
    rw [HRE.out]
    rintro e w3 ⟨rfl, hb3⟩
    clear p_c0 p_c1 p_c2 p_l
    have HC3 := Lib.hid (HA2.out.trans (hb3.mono HA2.out.size))
    have HW3 := Lib.hid (HW2.out.trans (HC3.out.mono HW2.out.size))
    have P_3 := Lib.hid (P_2.out.below HC3.out P_2.out.lt)
    have X_3 := Lib.hid ((Box.new w2 #[.string (R).1.1, .int .i64 (R).1.2.1, .int .i64 (R).1.2.2] 24).below hb3 (by simp only [World.size_alloc]; omega))
    clear hb3
    have HA3 := Lib.hid (show Below w3.heap.size w3 (w3.alloc (.cells #[.string (R).1.1, .int .i64 (R).1.2.1, .int .i64 (R).1.2.2] 24)) from ((Below.refl _ _).alloc (Nat.le_refl _) _))
    have p_c0 := P_3.out.cell 0
    have p_c1 := P_3.out.cell 1
    have p_c2 := P_3.out.cell 2
    have x_c0 := X_3.out.cell 0
    have x_c1 := X_3.out.cell 1
    have x_c2 := X_3.out.cell 2
    simp at p_c0 p_c1 p_c2 x_c0 x_c1 x_c2
    have p_l := P_3.out.lt
    have x_l := X_3.out.lt
    go_wp2_with fail
    go_ret
    exact ⟨rfl, HW3.out.trans (HA3.out.mono HW3.out.size)⟩
  obtain ⟨a, a1, a2, a3, a4, a5, a6, a7⟩ := tak_fine hp
  have HRE := Lib.hid a7
  have HOK := Lib.hid a6
  have HMIN := Lib.hid a2
  clear hp a2 a5 a6 a7
  by_cases h4 : m ≤ (t.size : Int)
  case pos =>
    have hma : m = (a : Int) := by have := HMIN.out; omega
    subst hma
    have HSZ := Lib.hid (show (t.extract a t.size).size ≤ maxLen by rw [ByteArray.size_extract]; unfold maxLen; omega)
    have q4 : (9223372036854775807 < min a t.size + (t.size - a)) = False := eq_false (by omega)
    have q5 : (9223372036854775807 < a + (t.size - a)) = False := eq_false (by omega)
    have q6 : (9223372036854775807 < t.size) = False := eq_false (by omega)
    have HA1 := Lib.hid (show Below w1.heap.size w1 (w1.alloc (.cells #[.string t, .int .i64 r, .int .i64 k] 24)) from ((Below.refl _ _).alloc (Nat.le_refl _) _))
    go_wp2_with fail
    refine (HM.out t r k (a : Int) HT.out).mono ?_
    rw [HRE.out]
    rintro e w2 ⟨rfl, hb2⟩
    have HC2 := Lib.hid (HA1.out.trans (hb2.mono HA1.out.size))
    have HW2 := Lib.hid (HW1.out.trans (HC2.out.mono HW1.out.size))
    have P_2 := Lib.hid ((Box.new w1 #[.string t, .int .i64 r, .int .i64 k] 24).below hb2 (by simp only [World.size_alloc]; omega))
    clear hb2
    have HA2 := Lib.hid (show Below w2.heap.size w2 (w2.alloc (.cells #[.string (t.extract a t.size), .int .i64 r, .int .i64 k] 24)) from ((Below.refl _ _).alloc (Nat.le_refl _) _))
    have p_c0 := P_2.out.cell 0
    have p_c1 := P_2.out.cell 1
    have p_c2 := P_2.out.cell 2
    simp at p_c0 p_c1 p_c2
    have p_l := P_2.out.lt
    go_wp2_with fail
    refine (pipeTake_any t r k (a : Int) HT.out).mono ?_
    rw [HRE.out]
    rintro e w3 ⟨rfl, hb3⟩
    clear p_c0 p_c1 p_c2 p_l
    have HC3 := Lib.hid (HA2.out.trans (hb3.mono HA2.out.size))
    have HW3 := Lib.hid (HW2.out.trans (HC3.out.mono HW2.out.size))
    have P_3 := Lib.hid (P_2.out.below HC3.out P_2.out.lt)
    have X_3 := Lib.hid ((Box.new w2 #[.string (t.extract a t.size), .int .i64 r, .int .i64 k] 24).below hb3 (by simp only [World.size_alloc]; omega))
    clear hb3
    have HA3 := Lib.hid (show Below w3.heap.size w3 (w3.alloc (.cells #[.string (t.extract a t.size), .int .i64 r, .int .i64 k] 24)) from ((Below.refl _ _).alloc (Nat.le_refl _) _))
    have p_c0 := P_3.out.cell 0
    have p_c1 := P_3.out.cell 1
    have p_c2 := P_3.out.cell 2
    have x_c0 := X_3.out.cell 0
    have x_c1 := X_3.out.cell 1
    have x_c2 := X_3.out.cell 2
    simp at p_c0 p_c1 p_c2 x_c0 x_c1 x_c2
    have p_l := P_3.out.lt
    have x_l := X_3.out.lt
    go_wp2_with fail
    refine (HO.out (t.extract a t.size) r k HSZ.out).mono ?_
    rw [HOK.out]
    rintro e w4 ⟨rfl, hb4⟩
    clear p_c0 p_c1 p_c2 x_c0 x_c1 x_c2 p_l x_l
    have HC4 := Lib.hid (HA3.out.trans (hb4.mono HA3.out.size))
    have HW4 := Lib.hid (HW3.out.trans (HC4.out.mono HW3.out.size))
    have P_4 := Lib.hid (P_3.out.below HC4.out P_3.out.lt)
    have X_4 := Lib.hid (X_3.out.below HC4.out X_3.out.lt)
    have Y_4 := Lib.hid ((Box.new w3 #[.string (t.extract a t.size), .int .i64 r, .int .i64 k] 24).below hb4 (by simp only [World.size_alloc]; omega))
    clear hb4
    have HA4 := Lib.hid (show Below w4.heap.size w4 w4 from (Below.refl _ _))
    have p_c0 := P_4.out.cell 0
    have p_c1 := P_4.out.cell 1
    have p_c2 := P_4.out.cell 2
    have x_c0 := X_4.out.cell 0
    have x_c1 := X_4.out.cell 1
    have x_c2 := X_4.out.cell 2
    have y_c0 := Y_4.out.cell 0
    have y_c1 := Y_4.out.cell 1
    have y_c2 := Y_4.out.cell 2
    simp at p_c0 p_c1 p_c2 x_c0 x_c1 x_c2 y_c0 y_c1 y_c2
    have p_l := P_4.out.lt
    have x_l := X_4.out.lt
    have y_l := Y_4.out.lt
    go_wp2_with fail
    go_ret
    exact ⟨rfl, HW4.out.trans (HA4.out.mono HW4.out.size)⟩
  have h5 : (t.size : Int) < m := by omega
  obtain rfl : a = t.size := by have := HMIN.out; omega
  have ht0 : t.extract t.size t.size = ⟨#[]⟩ := by
    apply ByteArray.ext
    simp
  rw [ht0, ByteArray.extract_zero_size] at HRE
  rw [ht0] at HOK
  have HSZ := Lib.hid (show (⟨#[]⟩ : ByteArray).size ≤ maxLen from Nat.zero_le _)
  have q6 : (9223372036854775807 < t.size) = False := eq_false (by omega)
  have q7 : t ++ (⟨#[]⟩ : ByteArray) = t := by
    apply ByteArray.ext
    rw [ByteArray.data_append]
    simp
  clear ht0 a1
  have HA1 := Lib.hid (show Below w1.heap.size w1 (w1.alloc (.cells #[.string t, .int .i64 r, .int .i64 k] 24)) from ((Below.refl _ _).alloc (Nat.le_refl _) _))
  go_wp2_with fail
  refine (HM.out t r k m HT.out).mono ?_
  rw [HRE.out]
  rintro e w2 ⟨rfl, hb2⟩
  have HC2 := Lib.hid (HA1.out.trans (hb2.mono HA1.out.size))
  have HW2 := Lib.hid (HW1.out.trans (HC2.out.mono HW1.out.size))
  have P_2 := Lib.hid ((Box.new w1 #[.string t, .int .i64 r, .int .i64 k] 24).below hb2 (by simp only [World.size_alloc]; omega))
  clear hb2
  have HA2 := Lib.hid (show Below w2.heap.size w2 (w2.alloc (.cells #[.string ⟨#[]⟩, .int .i64 r, .int .i64 k] 24)) from ((Below.refl _ _).alloc (Nat.le_refl _) _))
  have p_c0 := P_2.out.cell 0
  have p_c1 := P_2.out.cell 1
  have p_c2 := P_2.out.cell 2
  simp at p_c0 p_c1 p_c2
  have p_l := P_2.out.lt
  go_wp2_with fail
  refine (pipeTake_any t r k m HT.out).mono ?_
  rw [HRE.out]
  rintro e w3 ⟨rfl, hb3⟩
  clear p_c0 p_c1 p_c2 p_l
  have HC3 := Lib.hid (HA2.out.trans (hb3.mono HA2.out.size))
  have HW3 := Lib.hid (HW2.out.trans (HC3.out.mono HW2.out.size))
  have P_3 := Lib.hid (P_2.out.below HC3.out P_2.out.lt)
  have X_3 := Lib.hid ((Box.new w2 #[.string ⟨#[]⟩, .int .i64 r, .int .i64 k] 24).below hb3 (by simp only [World.size_alloc]; omega))
  clear hb3
  have HA3 := Lib.hid (show Below w3.heap.size w3 (w3.alloc (.cells #[.string ⟨#[]⟩, .int .i64 r, .int .i64 k] 24)) from ((Below.refl _ _).alloc (Nat.le_refl _) _))
  have p_c0 := P_3.out.cell 0
  have p_c1 := P_3.out.cell 1
  have p_c2 := P_3.out.cell 2
  have x_c0 := X_3.out.cell 0
  have x_c1 := X_3.out.cell 1
  have x_c2 := X_3.out.cell 2
  simp at p_c0 p_c1 p_c2 x_c0 x_c1 x_c2
  have p_l := P_3.out.lt
  have x_l := X_3.out.lt
  go_wp2_with fail
  refine (HO.out ⟨#[]⟩ r k HSZ.out).mono ?_
  rw [HOK.out]
  rintro e w4 ⟨rfl, hb4⟩
  clear p_c0 p_c1 p_c2 x_c0 x_c1 x_c2 p_l x_l
  have HC4 := Lib.hid (HA3.out.trans (hb4.mono HA3.out.size))
  have HW4 := Lib.hid (HW3.out.trans (HC4.out.mono HW3.out.size))
  have P_4 := Lib.hid (P_3.out.below HC4.out P_3.out.lt)
  have X_4 := Lib.hid (X_3.out.below HC4.out X_3.out.lt)
  have Y_4 := Lib.hid ((Box.new w3 #[.string ⟨#[]⟩, .int .i64 r, .int .i64 k] 24).below hb4 (by simp only [World.size_alloc]; omega))
  clear hb4
  have HA4 := Lib.hid (show Below w4.heap.size w4 w4 from (Below.refl _ _))
  have p_c0 := P_4.out.cell 0
  have p_c1 := P_4.out.cell 1
  have p_c2 := P_4.out.cell 2
  have x_c0 := X_4.out.cell 0
  have x_c1 := X_4.out.cell 1
  have x_c2 := X_4.out.cell 2
  have y_c0 := Y_4.out.cell 0
  have y_c1 := Y_4.out.cell 1
  have y_c2 := Y_4.out.cell 2
  simp at p_c0 p_c1 p_c2 x_c0 x_c1 x_c2 y_c0 y_c1 y_c2
  have p_l := P_4.out.lt
  have x_l := X_4.out.lt
  have y_l := Y_4.out.lt
  go_wp2_with fail
  go_ret
  exact ⟨rfl, HW4.out.trans (HA4.out.mono HW4.out.size)⟩
end
end Go.Proofs.Ytjjkkfemhfhciaa
