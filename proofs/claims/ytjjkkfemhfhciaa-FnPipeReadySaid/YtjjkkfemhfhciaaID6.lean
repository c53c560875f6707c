/-
  The walk of FnPipeReady.
-/
import Derived.Test.YtjjkkfemhfhciaaIDraw2
import Derived.Test.YtjjkkfemhfhciaaIEx
namespace Go.Proofs.Ytjjkkfemhfhciaa
open Go.RowKit

section
variable {A : Option Addr} {n c : Nat} {w : World}
theorem tak_code {t : ByteArray} {r k : Int} (hp : piB t r k = true) : (takR t r k 1).2.2 = if r = 0 then 1 else if t.size = 0 then (if k = 0 then 3 else 2) else 0 := by
  unfold takR takI
  rw [hp]
  by_cases h : r = 0
  · rw [decide_eq_true h, if_neg (by simp), if_pos h]
  · rw [decide_eq_false h, if_pos (by rfl), if_neg h, if_neg (by decide)]
    by_cases h2 : t.size = 0
    · rw [if_pos h2, if_pos h2]
    · rw [if_neg h2, if_neg h2]
theorem put_code {t x : ByteArray} {r k : Int} (hp : piB t r k = true) (hx : x.size = 1) : (putR t r k x).2.2 = if k = 0 then 1 else if r = 0 then 4 else if t.size = 8 then 2 else 0 := by
  have h8 := pi_size hp
  unfold putR putI
  rw [hp, hx]
  by_cases h : k = 0
  · rw [decide_eq_true h, if_neg (by simp), if_pos h]
  · rw [decide_eq_false h, if_pos (by rfl), if_neg h]
    by_cases h2 : r = 0
    · rw [if_pos h2, if_pos h2]
    · rw [if_neg h2, if_neg h2, if_neg (by decide)]
      by_cases h3 : t.size = 8
      · rw [if_pos (Or.inl h3), if_pos h3]
      · rw [if_neg (by omega), if_neg h3]
set_option maxHeartbeats 2000000 in
set_option maxRecDepth 100000 in
theorem dPipeReady_walk (hm : IRdy 34) (ho : IOk 19) (ht : ITak 27) (hu : IPut 24) (hc : Code w A n) (hcap : n ≤ c) (hcap2 : c ≤ maxLen) : Calls Try.prog 8 #[.slice A n c] w fun e w' => e = .returned (.bool true) ∧ Below w.heap.size w w' := by
  have hn := hc.1
  unfold maxLen at hn
  by_cases hbig : (1048576 : Int) < n
  · go_enter Try.func8, Try.ntmps8
    go_wp2_with fail
    go_ret
    exact ⟨rfl, Below.refl _ _⟩
  have HCODE := Lib.hid hc
  clear hc
  have HM := Lib.hid hm
  clear hm
  have HO := Lib.hid ho
  clear ho
  have HTK := Lib.hid ht
  clear ht
  have HPU := Lib.hid hu
  clear hu
  have HW0 := Lib.hid (Below.refl w.heap.size w)
  go_enter Try.func8, Try.ntmps8
  have HA0 := Lib.hid (show Below w.heap.size w w from (Below.refl _ _))
  go_wp2_with fail
  refine (dDrawPipeReady_any HCODE.out hcap hcap2).mono ?_
  rintro e w1 ⟨t, r, k, rfl, ts, ⟨ra, rb⟩, ⟨ka, kb⟩, hb1⟩
  have HC1 := Lib.hid (HA0.out.trans (hb1.mono HA0.out.size))
  have HW1 := Lib.hid (HW0.out.trans (HC1.out.mono HW0.out.size))
  clear hb1
  have HT := Lib.hid (show t.size ≤ maxLen by unfold maxLen; omega)
  have HX := Lib.hid (show (⟨#[120]⟩ : ByteArray).size ≤ maxLen by decide)
  by_cases hp : piB t r k = true
  case neg =>
    have hp' : piB t r k = false := by simpa using hp
    have HR := Lib.hid (show rdyR t r k = (false, false) by unfold rdyR; rw [hp', if_neg Bool.false_ne_true])
    have HPP := Lib.hid hp'
    clear hp hp'
    have HA1 := Lib.hid (show Below w1.heap.size w1 (w1.alloc (.cells #[.string t, .int .i64 r, .int .i64 k] 24)) from ((Below.refl _ _).alloc (Nat.le_refl _) _))
    go_wp2_with fail
    refine (HM.out t r k HT.out).mono ?_
    rw [HR.out]
    rintro e w2 ⟨rfl, hb2⟩
    have HC2 := Lib.hid (HA1.out.trans (hb2.mono HA1.out.size))
    have HW2 := Lib.hid (HW1.out.trans (HC2.out.mono HW1.out.size))
    have P_2 := Lib.hid ((Box.new w1 #[.string t, .int .i64 r, .int .i64 k] 24).below hb2 (by simp only [World.size_alloc]; omega))
    clear hb2
    have HA2 := Lib.hid (show Below w2.heap.size w2 w2 from (Below.refl _ _))
    have p_c0 := P_2.out.cell 0
    have p_c1 := P_2.out.cell 1
    have p_c2 := P_2.out.cell 2
    simp at p_c0 p_c1 p_c2
    have p_l := P_2.out.lt
    go_wp2_with fail
    refine (pipeReady_any t r k HT.out).mono ?_
    rw [HR.out]
    rintro e w3 ⟨rfl, hb3⟩
    clear p_c0 p_c1 p_c2 p_l
    have HC3 := Lib.hid (HA2.out.trans (hb3.mono HA2.out.size))
    have HW3 := Lib.hid (HW2.out.trans (HC3.out.mono HW2.out.size))
    have P_3 := Lib.hid (P_2.out.below HC3.out P_2.out.lt)
    clear hb3
    have HA3 := Lib.hid (show Below w3.heap.size w3 w3 from (Below.refl _ _))
    have p_c0 := P_3.out.cell 0
    have p_c1 := P_3.out.cell 1
    have p_c2 := P_3.out.cell 2
    simp at p_c0 p_c1 p_c2
    have p_l := P_3.out.lt
    go_wp2_with fail
    refine (HO.out t r k HT.out).mono ?_
    rw [HPP.out]
    rintro e w4 ⟨rfl, hb4⟩
    clear p_c0 p_c1 p_c2 p_l
    have HC4 := Lib.hid (HA3.out.trans (hb4.mono HA3.out.size))
    have HW4 := Lib.hid (HW3.out.trans (HC4.out.mono HW3.out.size))
    have P_4 := Lib.hid (P_3.out.below HC4.out P_3.out.lt)
    clear hb4
    have HA4 := Lib.hid (show Below w4.heap.size w4 w4 from (Below.refl _ _))
    have p_c0 := P_4.out.cell 0
    have p_c1 := P_4.out.cell 1
    have p_c2 := P_4.out.cell 2
    simp at p_c0 p_c1 p_c2
    have p_l := P_4.out.lt
    go_wp2_with fail
    go_ret
    exact ⟨rfl, HW4.out.trans (HA4.out.mono HW4.out.size)⟩
  have hrk := pi_in hp
  have h8 := pi_size hp
  have hr5 : 0 < r ∨ t.size = 0 := by
    have h := hp
    unfold piB at h
    simp only [Bool.and_eq_true, Bool.or_eq_true, decide_eq_true_eq] at h
    exact h.2.2.2
  have hq := rdy_eq hp
  by_cases h1 : t.size = 0
  case pos =>
    by_cases h2 : k = 0
    case pos =>
      by_cases h3 : r = 0
      case pos =>
        have HR := Lib.hid (show rdyR t r k = (true, true) by rw [hq, decide_eq_true h1, decide_eq_true h2, decide_eq_true (show t.size < 8 by omega), decide_eq_true h3] <;> rfl)
        have HA := Lib.hid (show (takR t r k 1).2.2 = 1 by rw [tak_code hp, if_pos h3])
        have HB := Lib.hid (show (putR t r k ⟨#[120]⟩).2.2 = 1 by rw [put_code hp rfl, if_pos h2])
        have HPP := Lib.hid hp
        have er : (r == 0) = true := by rw [beq_iff_eq]; exact h3
        have ek : (k == 0) = true := by rw [beq_iff_eq]; exact h2
        clear hp hq hrk hr5 h1 h2 h3
        have HA1 := Lib.hid (show Below w1.heap.size w1 (w1.alloc (.cells #[.string t, .int .i64 r, .int .i64 k] 24)) from ((Below.refl _ _).alloc (Nat.le_refl _) _))
        go_wp2_with fail
        refine (HM.out t r k HT.out).mono ?_
        rw [HR.out]
        rintro e w2 ⟨rfl, hb2⟩
        have HC2 := Lib.hid (HA1.out.trans (hb2.mono HA1.out.size))
        have HW2 := Lib.hid (HW1.out.trans (HC2.out.mono HW1.out.size))
        have P_2 := Lib.hid ((Box.new w1 #[.string t, .int .i64 r, .int .i64 k] 24).below hb2 (by simp only [World.size_alloc]; omega))
        clear hb2
        have HA2 := Lib.hid (show Below w2.heap.size w2 w2 from (Below.refl _ _))
        have p_c0 := P_2.out.cell 0
        have p_c1 := P_2.out.cell 1
        have p_c2 := P_2.out.cell 2
        simp at p_c0 p_c1 p_c2
        have p_l := P_2.out.lt
        go_wp2_with fail
        refine (pipeReady_any t r k HT.out).mono ?_
        rw [HR.out]
        rintro e w3 ⟨rfl, hb3⟩
        clear p_c0 p_c1 p_c2 p_l
        have HC3 := Lib.hid (HA2.out.trans (hb3.mono HA2.out.size))
        have HW3 := Lib.hid (HW2.out.trans (HC3.out.mono HW2.out.size))
        have P_3 := Lib.hid (P_2.out.below HC3.out P_2.out.lt)
        clear hb3
        have HA3 := Lib.hid (show Below w3.heap.size w3 w3 from (Below.refl _ _))
        have p_c0 := P_3.out.cell 0
        have p_c1 := P_3.out.cell 1
        have p_c2 := P_3.out.cell 2
        simp at p_c0 p_c1 p_c2
        have p_l := P_3.out.lt
        go_wp2_with fail
        refine (HO.out t r k HT.out).mono ?_
        rw [HPP.out]
        rintro e w4 ⟨rfl, hb4⟩
        clear p_c0 p_c1 p_c2 p_l
        have HC4 := Lib.hid (HA3.out.trans (hb4.mono HA3.out.size))
        have HW4 := Lib.hid (HW3.out.trans (HC4.out.mono HW3.out.size))
        have P_4 := Lib.hid (P_3.out.below HC4.out P_3.out.lt)
        clear hb4
        have HA4 := Lib.hid (show Below w4.heap.size w4 w4 from (Below.refl _ _))
        have p_c0 := P_4.out.cell 0
        have p_c1 := P_4.out.cell 1
        have p_c2 := P_4.out.cell 2
        simp at p_c0 p_c1 p_c2
        have p_l := P_4.out.lt
        go_wp2_with fail
        refine (HTK.out t r k 1 HT.out).mono ?_
        rw [HA.out]
        rintro e w5 ⟨rfl, hb5⟩
        clear p_c0 p_c1 p_c2 p_l
        have HC5 := Lib.hid (HA4.out.trans (hb5.mono HA4.out.size))
        have HW5 := Lib.hid (HW4.out.trans (HC5.out.mono HW4.out.size))
        have P_5 := Lib.hid (P_4.out.below HC5.out P_4.out.lt)
        clear hb5
        have HA5 := Lib.hid (show Below w5.heap.size w5 (w5.alloc (.cells #[.string (takR t r k 1).1.1, .int .i64 (takR t r k 1).1.2.1, .int .i64 (takR t r k 1).1.2.2] 24)) from ((Below.refl _ _).alloc (Nat.le_refl _) _))
        have p_c0 := P_5.out.cell 0
        have p_c1 := P_5.out.cell 1
        have p_c2 := P_5.out.cell 2
        simp at p_c0 p_c1 p_c2
        have p_l := P_5.out.lt
        go_wp2_with fail
        refine (HPU.out t r k ⟨#[120]⟩ HT.out HX.out).mono ?_
        rw [HB.out]
        rintro e w6 ⟨rfl, hb6⟩
        clear p_c0 p_c1 p_c2 p_l
        have HC6 := Lib.hid (HA5.out.trans (hb6.mono HA5.out.size))
        have HW6 := Lib.hid (HW5.out.trans (HC6.out.mono HW5.out.size))
        have P_6 := Lib.hid (P_5.out.below HC6.out P_5.out.lt)
        have X_6 := Lib.hid ((Box.new w5 #[.string (takR t r k 1).1.1, .int .i64 (takR t r k 1).1.2.1, .int .i64 (takR t r k 1).1.2.2] 24).below hb6 (by simp only [World.size_alloc]; omega))
        clear hb6
        have HA6 := Lib.hid (show Below w6.heap.size w6 (w6.alloc (.cells #[.string (putR t r k ⟨#[120]⟩).1.1, .int .i64 (putR t r k ⟨#[120]⟩).1.2.1, .int .i64 (putR t r k ⟨#[120]⟩).1.2.2] 24)) from ((Below.refl _ _).alloc (Nat.le_refl _) _))
        have p_c0 := P_6.out.cell 0
        have p_c1 := P_6.out.cell 1
        have p_c2 := P_6.out.cell 2
        have x_c0 := X_6.out.cell 0
        have x_c1 := X_6.out.cell 1
        have x_c2 := X_6.out.cell 2
        simp at p_c0 p_c1 p_c2 x_c0 x_c1 x_c2
        have p_l := P_6.out.lt
        have x_l := X_6.out.lt
        go_wp2_with fail
        go_ret
        exact ⟨rfl, HW6.out.trans (HA6.out.mono HW6.out.size)⟩
      have HR := Lib.hid (show rdyR t r k = (true, true) by rw [hq, decide_eq_true h1, decide_eq_true h2, decide_eq_true (show t.size < 8 by omega), decide_eq_false h3] <;> rfl)
      have HA := Lib.hid (show (takR t r k 1).2.2 = 3 by rw [tak_code hp, if_neg h3, if_pos h1, if_pos h2])
      have HB := Lib.hid (show (putR t r k ⟨#[120]⟩).2.2 = 1 by rw [put_code hp rfl, if_pos h2])
      have HPP := Lib.hid hp
      have er : (r == 0) = false := by rw [beq_eq_false_iff_ne]; exact h3
      have ek : (k == 0) = true := by rw [beq_iff_eq]; exact h2
      clear hp hq hrk hr5 h1 h2 h3
      have HA1 := Lib.hid (show Below w1.heap.size w1 (w1.alloc (.cells #[.string t, .int .i64 r, .int .i64 k] 24)) from ((Below.refl _ _).alloc (Nat.le_refl _) _))
      go_wp2_with fail
      refine (HM.out t r k HT.out).mono ?_
      rw [HR.out]
      rintro e w2 ⟨rfl, hb2⟩
      have HC2 := Lib.hid (HA1.out.trans (hb2.mono HA1.out.size))
      have HW2 := Lib.hid (HW1.out.trans (HC2.out.mono HW1.out.size))
      have P_2 := Lib.hid ((Box.new w1 #[.string t, .int .i64 r, .int .i64 k] 24).below hb2 (by simp only [World.size_alloc]; omega))
      clear hb2
      have HA2 := Lib.hid (show Below w2.heap.size w2 w2 from (Below.refl _ _))
      have p_c0 := P_2.out.cell 0
      have p_c1 := P_2.out.cell 1
      have p_c2 := P_2.out.cell 2
      simp at p_c0 p_c1 p_c2
      have p_l := P_2.out.lt
      go_wp2_with fail
      refine (pipeReady_any t r k HT.out).mono ?_
      rw [HR.out]
      rintro e w3 ⟨rfl, hb3⟩
      clear p_c0 p_c1 p_c2 p_l
      have HC3 := Lib.hid (HA2.out.trans (hb3.mono HA2.out.size))
      have HW3 := Lib.hid (HW2.out.trans (HC3.out.mono HW2.out.size))
      have P_3 := Lib.hid (P_2.out.below HC3.out P_2.out.lt)
      clear hb3
      have HA3 := Lib.hid (show Below w3.heap.size w3 w3 from (Below.refl _ _))
      have p_c0 := P_3.out.cell 0
      have p_c1 := P_3.out.cell 1
      have p_c2 := P_3.out.cell 2
      simp at p_c0 p_c1 p_c2
      have p_l := P_3.out.lt
      go_wp2_with fail
      refine (HO.out t r k HT.out).mono ?_
      rw [HPP.out]
      rintro e w4 ⟨rfl, hb4⟩
      clear p_c0 p_c1 p_c2 p_l
      have HC4 := Lib.hid (HA3.out.trans (hb4.mono HA3.out.size))
      have HW4 := Lib.hid (HW3.out.trans (HC4.out.mono HW3.out.size))
      have P_4 := Lib.hid (P_3.out.below HC4.out P_3.out.lt)
      clear hb4
      have HA4 := Lib.hid (show Below w4.heap.size w4 w4 from (Below.refl _ _))
      have p_c0 := P_4.out.cell 0
      have p_c1 := P_4.out.cell 1
      have p_c2 := P_4.out.cell 2
      simp at p_c0 p_c1 p_c2
      have p_l := P_4.out.lt
      go_wp2_with fail
      refine (HTK.out t r k 1 HT.out).mono ?_
      rw [HA.out]
      rintro e w5 ⟨rfl, hb5⟩
      clear p_c0 p_c1 p_c2 p_l
      have HC5 := Lib.hid (HA4.out.trans (hb5.mono HA4.out.size))
      have HW5 := Lib.hid (HW4.out.trans (HC5.out.mono HW4.out.size))
      have P_5 := Lib.hid (P_4.out.below HC5.out P_4.out.lt)
      clear hb5
      have HA5 := Lib.hid (show Below w5.heap.size w5 (w5.alloc (.cells #[.string (takR t r k 1).1.1, .int .i64 (takR t r k 1).1.2.1, .int .i64 (takR t r k 1).1.2.2] 24)) from ((Below.refl _ _).alloc (Nat.le_refl _) _))
      have p_c0 := P_5.out.cell 0
      have p_c1 := P_5.out.cell 1
      have p_c2 := P_5.out.cell 2
      simp at p_c0 p_c1 p_c2
      have p_l := P_5.out.lt
      go_wp2_with fail
      refine (HPU.out t r k ⟨#[120]⟩ HT.out HX.out).mono ?_
      rw [HB.out]
      rintro e w6 ⟨rfl, hb6⟩
      clear p_c0 p_c1 p_c2 p_l
      have HC6 := Lib.hid (HA5.out.trans (hb6.mono HA5.out.size))
      have HW6 := Lib.hid (HW5.out.trans (HC6.out.mono HW5.out.size))
      have P_6 := Lib.hid (P_5.out.below HC6.out P_5.out.lt)
      have X_6 := Lib.hid ((Box.new w5 #[.string (takR t r k 1).1.1, .int .i64 (takR t r k 1).1.2.1, .int .i64 (takR t r k 1).1.2.2] 24).below hb6 (by simp only [World.size_alloc]; omega))
      clear hb6
      have HA6 := Lib.hid (show Below w6.heap.size w6 (w6.alloc (.cells #[.string (putR t r k ⟨#[120]⟩).1.1, .int .i64 (putR t r k ⟨#[120]⟩).1.2.1, .int .i64 (putR t r k ⟨#[120]⟩).1.2.2] 24)) from ((Below.refl _ _).alloc (Nat.le_refl _) _))
      have p_c0 := P_6.out.cell 0
      have p_c1 := P_6.out.cell 1
      have p_c2 := P_6.out.cell 2
      have x_c0 := X_6.out.cell 0
      have x_c1 := X_6.out.cell 1
      have x_c2 := X_6.out.cell 2
      simp at p_c0 p_c1 p_c2 x_c0 x_c1 x_c2
      have p_l := P_6.out.lt
      have x_l := X_6.out.lt
      go_wp2_with fail
      go_ret
      exact ⟨rfl, HW6.out.trans (HA6.out.mono HW6.out.size)⟩
    by_cases h3 : r = 0
    case pos =>
      have HR := Lib.hid (show rdyR t r k = (false, true) by rw [hq, decide_eq_true h1, decide_eq_false h2, decide_eq_true (show t.size < 8 by omega), decide_eq_true h3] <;> rfl)
      have HA := Lib.hid (show (takR t r k 1).2.2 = 1 by rw [tak_code hp, if_pos h3])
      have HB := Lib.hid (show (putR t r k ⟨#[120]⟩).2.2 = 4 by rw [put_code hp rfl, if_neg h2, if_pos h3])
      have HPP := Lib.hid hp
      have er : (r == 0) = true := by rw [beq_iff_eq]; exact h3
      have ek : (k == 0) = false := by rw [beq_eq_false_iff_ne]; exact h2
      clear hp hq hrk hr5 h1 h2 h3
      have HA1 := Lib.hid (show Below w1.heap.size w1 (w1.alloc (.cells #[.string t, .int .i64 r, .int .i64 k] 24)) from ((Below.refl _ _).alloc (Nat.le_refl _) _))
      go_wp2_with fail
      refine (HM.out t r k HT.out).mono ?_
      rw [HR.out]
      rintro e w2 ⟨rfl, hb2⟩
      have HC2 := Lib.hid (HA1.out.trans (hb2.mono HA1.out.size))
      have HW2 := Lib.hid (HW1.out.trans (HC2.out.mono HW1.out.size))
      have P_2 := Lib.hid ((Box.new w1 #[.string t, .int .i64 r, .int .i64 k] 24).below hb2 (by simp only [World.size_alloc]; omega))
      clear hb2
      have HA2 := Lib.hid (show Below w2.heap.size w2 w2 from (Below.refl _ _))
      have p_c0 := P_2.out.cell 0
      have p_c1 := P_2.out.cell 1
      have p_c2 := P_2.out.cell 2
      simp at p_c0 p_c1 p_c2
      have p_l := P_2.out.lt
      go_wp2_with fail
      refine (pipeReady_any t r k HT.out).mono ?_
      rw [HR.out]
      rintro e w3 ⟨rfl, hb3⟩
      clear p_c0 p_c1 p_c2 p_l
      have HC3 := Lib.hid (HA2.out.trans (hb3.mono HA2.out.size))
      have HW3 := Lib.hid (HW2.out.trans (HC3.out.mono HW2.out.size))
      have P_3 := Lib.hid (P_2.out.below HC3.out P_2.out.lt)
      clear hb3
      have HA3 := Lib.hid (show Below w3.heap.size w3 w3 from (Below.refl _ _))
      have p_c0 := P_3.out.cell 0
      have p_c1 := P_3.out.cell 1
      have p_c2 := P_3.out.cell 2
      simp at p_c0 p_c1 p_c2
      have p_l := P_3.out.lt
      go_wp2_with fail
      refine (HO.out t r k HT.out).mono ?_
      rw [HPP.out]
      rintro e w4 ⟨rfl, hb4⟩
      clear p_c0 p_c1 p_c2 p_l
      have HC4 := Lib.hid (HA3.out.trans (hb4.mono HA3.out.size))
      have HW4 := Lib.hid (HW3.out.trans (HC4.out.mono HW3.out.size))
      have P_4 := Lib.hid (P_3.out.below HC4.out P_3.out.lt)
      clear hb4
      have HA4 := Lib.hid (show Below w4.heap.size w4 w4 from (Below.refl _ _))
      have p_c0 := P_4.out.cell 0
      have p_c1 := P_4.out.cell 1
      have p_c2 := P_4.out.cell 2
      simp at p_c0 p_c1 p_c2
      have p_l := P_4.out.lt
      go_wp2_with fail
      refine (HTK.out t r k 1 HT.out).mono ?_
      rw [HA.out]
      rintro e w5 ⟨rfl, hb5⟩
      clear p_c0 p_c1 p_c2 p_l
      have HC5 := Lib.hid (HA4.out.trans (hb5.mono HA4.out.size))
      have HW5 := Lib.hid (HW4.out.trans (HC5.out.mono HW4.out.size))
      have P_5 := Lib.hid (P_4.out.below HC5.out P_4.out.lt)
      clear hb5
      have HA5 := Lib.hid (show Below w5.heap.size w5 (w5.alloc (.cells #[.string (takR t r k 1).1.1, .int .i64 (takR t r k 1).1.2.1, .int .i64 (takR t r k 1).1.2.2] 24)) from ((Below.refl _ _).alloc (Nat.le_refl _) _))
      have p_c0 := P_5.out.cell 0
      have p_c1 := P_5.out.cell 1
      have p_c2 := P_5.out.cell 2
      simp at p_c0 p_c1 p_c2
      have p_l := P_5.out.lt
      go_wp2_with fail
      refine (HPU.out t r k ⟨#[120]⟩ HT.out HX.out).mono ?_
      rw [HB.out]
      rintro e w6 ⟨rfl, hb6⟩
      clear p_c0 p_c1 p_c2 p_l
      have HC6 := Lib.hid (HA5.out.trans (hb6.mono HA5.out.size))
      have HW6 := Lib.hid (HW5.out.trans (HC6.out.mono HW5.out.size))
      have P_6 := Lib.hid (P_5.out.below HC6.out P_5.out.lt)
      have X_6 := Lib.hid ((Box.new w5 #[.string (takR t r k 1).1.1, .int .i64 (takR t r k 1).1.2.1, .int .i64 (takR t r k 1).1.2.2] 24).below hb6 (by simp only [World.size_alloc]; omega))
      clear hb6
      have HA6 := Lib.hid (show Below w6.heap.size w6 (w6.alloc (.cells #[.string (putR t r k ⟨#[120]⟩).1.1, .int .i64 (putR t r k ⟨#[120]⟩).1.2.1, .int .i64 (putR t r k ⟨#[120]⟩).1.2.2] 24)) from ((Below.refl _ _).alloc (Nat.le_refl _) _))
      have p_c0 := P_6.out.cell 0
      have p_c1 := P_6.out.cell 1
      have p_c2 := P_6.out.cell 2
      have x_c0 := X_6.out.cell 0
      have x_c1 := X_6.out.cell 1
      have x_c2 := X_6.out.cell 2
      simp at p_c0 p_c1 p_c2 x_c0 x_c1 x_c2
      have p_l := P_6.out.lt
      have x_l := X_6.out.lt
      go_wp2_with fail
      go_ret
      exact ⟨rfl, HW6.out.trans (HA6.out.mono HW6.out.size)⟩
    have HR := Lib.hid (show rdyR t r k = (false, true) by rw [hq, decide_eq_true h1, decide_eq_false h2, decide_eq_true (show t.size < 8 by omega), decide_eq_false h3] <;> rfl)
    have HA := Lib.hid (show (takR t r k 1).2.2 = 2 by rw [tak_code hp, if_neg h3, if_pos h1, if_neg h2])
    have HB := Lib.hid (show (putR t r k ⟨#[120]⟩).2.2 = 0 by rw [put_code hp rfl, if_neg h2, if_neg h3, if_neg (show ¬ t.size = 8 by omega)])
    have HPP := Lib.hid hp
    have er : (r == 0) = false := by rw [beq_eq_false_iff_ne]; exact h3
    have ek : (k == 0) = false := by rw [beq_eq_false_iff_ne]; exact h2
    clear hp hq hrk hr5 h1 h2 h3
    have HA1 := Lib.hid (show Below w1.heap.size w1 (w1.alloc (.cells #[.string t, .int .i64 r, .int .i64 k] 24)) from ((Below.refl _ _).alloc (Nat.le_refl _) _))
    go_wp2_with fail
    refine (HM.out t r k HT.out).mono ?_
    rw [HR.out]
    rintro e w2 ⟨rfl, hb2⟩
    have HC2 := Lib.hid (HA1.out.trans (hb2.mono HA1.out.size))
    have HW2 := Lib.hid (HW1.out.trans (HC2.out.mono HW1.out.size))
    have P_2 := Lib.hid ((Box.new w1 #[.string t, .int .i64 r, .int .i64 k] 24).below hb2 (by simp only [World.size_alloc]; omega))
    clear hb2
    have HA2 := Lib.hid (show Below w2.heap.size w2 w2 from (Below.refl _ _))
    have p_c0 := P_2.out.cell 0
    have p_c1 := P_2.out.cell 1
    have p_c2 := P_2.out.cell 2
    simp at p_c0 p_c1 p_c2
    have p_l := P_2.out.lt
    go_wp2_with fail
    refine (pipeReady_any t r k HT.out).mono ?_
    rw [HR.out]
    rintro e w3 ⟨rfl, hb3⟩
    clear p_c0 p_c1 p_c2 p_l
    have HC3 := Lib.hid (HA2.out.trans (hb3.mono HA2.out.size))
    have HW3 := Lib.hid (HW2.out.trans (HC3.out.mono HW2.out.size))
    have P_3 := Lib.hid (P_2.out.below HC3.out P_2.out.lt)
    clear hb3
    have HA3 := Lib.hid (show Below w3.heap.size w3 w3 from (Below.refl _ _))
    have p_c0 := P_3.out.cell 0
    have p_c1 := P_3.out.cell 1
    have p_c2 := P_3.out.cell 2
    simp at p_c0 p_c1 p_c2
    have p_l := P_3.out.lt
    go_wp2_with fail
    refine (HO.out t r k HT.out).mono ?_
    rw [HPP.out]
    rintro e w4 ⟨rfl, hb4⟩
    clear p_c0 p_c1 p_c2 p_l
    have HC4 := Lib.hid (HA3.out.trans (hb4.mono HA3.out.size))
    have HW4 := Lib.hid (HW3.out.trans (HC4.out.mono HW3.out.size))
    have P_4 := Lib.hid (P_3.out.below HC4.out P_3.out.lt)
    clear hb4
    have HA4 := Lib.hid (show Below w4.heap.size w4 w4 from (Below.refl _ _))
    have p_c0 := P_4.out.cell 0
    have p_c1 := P_4.out.cell 1
    have p_c2 := P_4.out.cell 2
    simp at p_c0 p_c1 p_c2
    have p_l := P_4.out.lt
    go_wp2_with fail
    refine (HTK.out t r k 1 HT.out).mono ?_
    rw [HA.out]
    rintro e w5 ⟨rfl, hb5⟩
    clear p_c0 p_c1 p_c2 p_l
    have HC5 := Lib.hid (HA4.out.trans (hb5.mono HA4.out.size))
    have HW5 := Lib.hid (HW4.out.trans (HC5.out.mono HW4.out.size))
    have P_5 := Lib.hid (P_4.out.below HC5.out P_4.out.lt)
    clear hb5
    have HA5 := Lib.hid (show Below w5.heap.size w5 (w5.alloc (.cells #[.string (takR t r k 1).1.1, .int .i64 (takR t r k 1).1.2.1, .int .i64 (takR t r k 1).1.2.2] 24)) from ((Below.refl _ _).alloc (Nat.le_refl _) _))
    have p_c0 := P_5.out.cell 0
    have p_c1 := P_5.out.cell 1
    have p_c2 := P_5.out.cell 2
    simp at p_c0 p_c1 p_c2
    have p_l := P_5.out.lt
    go_wp2_with fail
    refine (HPU.out t r k ⟨#[120]⟩ HT.out HX.out).mono ?_
    rw [HB.out]
    rintro e w6 ⟨rfl, hb6⟩
    clear p_c0 p_c1 p_c2 p_l
    have HC6 := Lib.hid (HA5.out.trans (hb6.mono HA5.out.size))
    have HW6 := Lib.hid (HW5.out.trans (HC6.out.mono HW5.out.size))
    have P_6 := Lib.hid (P_5.out.below HC6.out P_5.out.lt)
    have X_6 := Lib.hid ((Box.new w5 #[.string (takR t r k 1).1.1, .int .i64 (takR t r k 1).1.2.1, .int .i64 (takR t r k 1).1.2.2] 24).below hb6 (by simp only [World.size_alloc]; omega))
    clear hb6
    have HA6 := Lib.hid (show Below w6.heap.size w6 (w6.alloc (.cells #[.string (putR t r k ⟨#[120]⟩).1.1, .int .i64 (putR t r k ⟨#[120]⟩).1.2.1, .int .i64 (putR t r k ⟨#[120]⟩).1.2.2] 24)) from ((Below.refl _ _).alloc (Nat.le_refl _) _))
    have p_c0 := P_6.out.cell 0
    have p_c1 := P_6.out.cell 1
    have p_c2 := P_6.out.cell 2
    have x_c0 := X_6.out.cell 0
    have x_c1 := X_6.out.cell 1
    have x_c2 := X_6.out.cell 2
    simp at p_c0 p_c1 p_c2 x_c0 x_c1 x_c2
    have p_l := P_6.out.lt
    have x_l := X_6.out.lt
    go_wp2_with fail
    go_ret
    exact ⟨rfl, HW6.out.trans (HA6.out.mono HW6.out.size)⟩
  have h3 : ¬ r = 0 := by omega
  by_cases h2 : k = 0
  case pos =>
    by_cases h4 : t.size = 8
    case pos =>
      have HR := Lib.hid (show rdyR t r k = (true, false) by rw [hq, decide_eq_false h1, decide_eq_true h2, decide_eq_false (show ¬ t.size < 8 by omega), decide_eq_false h3] <;> rfl)
      have HA := Lib.hid (show (takR t r k 1).2.2 = 0 by rw [tak_code hp, if_neg h3, if_neg h1])
      have HB := Lib.hid (show (putR t r k ⟨#[120]⟩).2.2 = 1 by rw [put_code hp rfl, if_pos h2])
      have HPP := Lib.hid hp
      have er : (r == 0) = false := by rw [beq_eq_false_iff_ne]; exact h3
      have ek : (k == 0) = true := by rw [beq_iff_eq]; exact h2
      clear hp hq hrk hr5 h1 h2 h3 h4
      have HA1 := Lib.hid (show Below w1.heap.size w1 (w1.alloc (.cells #[.string t, .int .i64 r, .int .i64 k] 24)) from ((Below.refl _ _).alloc (Nat.le_refl _) _))
      go_wp2_with fail
      refine (HM.out t r k HT.out).mono ?_
      rw [HR.out]
      rintro e w2 ⟨rfl, hb2⟩
      have HC2 := Lib.hid (HA1.out.trans (hb2.mono HA1.out.size))
      have HW2 := Lib.hid (HW1.out.trans (HC2.out.mono HW1.out.size))
      have P_2 := Lib.hid ((Box.new w1 #[.string t, .int .i64 r, .int .i64 k] 24).below hb2 (by simp only [World.size_alloc]; omega))
      clear hb2
      have HA2 := Lib.hid (show Below w2.heap.size w2 w2 from (Below.refl _ _))
      have p_c0 := P_2.out.cell 0
      have p_c1 := P_2.out.cell 1
      have p_c2 := P_2.out.cell 2
      simp at p_c0 p_c1 p_c2
      have p_l := P_2.out.lt
      go_wp2_with fail
      refine (pipeReady_any t r k HT.out).mono ?_
      rw [HR.out]
      rintro e w3 ⟨rfl, hb3⟩
      clear p_c0 p_c1 p_c2 p_l
      have HC3 := Lib.hid (HA2.out.trans (hb3.mono HA2.out.size))
      have HW3 := Lib.hid (HW2.out.trans (HC3.out.mono HW2.out.size))
      have P_3 := Lib.hid (P_2.out.below HC3.out P_2.out.lt)
      clear hb3
      have HA3 := Lib.hid (show Below w3.heap.size w3 w3 from (Below.refl _ _))
      have p_c0 := P_3.out.cell 0
      have p_c1 := P_3.out.cell 1
      have p_c2 := P_3.out.cell 2
      simp at p_c0 p_c1 p_c2
      have p_l := P_3.out.lt
      go_wp2_with fail
      refine (HO.out t r k HT.out).mono ?_
      rw [HPP.out]
      rintro e w4 ⟨rfl, hb4⟩
      clear p_c0 p_c1 p_c2 p_l
      have HC4 := Lib.hid (HA3.out.trans (hb4.mono HA3.out.size))
      have HW4 := Lib.hid (HW3.out.trans (HC4.out.mono HW3.out.size))
      have P_4 := Lib.hid (P_3.out.below HC4.out P_3.out.lt)
      clear hb4
      have HA4 := Lib.hid (show Below w4.heap.size w4 w4 from (Below.refl _ _))
      have p_c0 := P_4.out.cell 0
      have p_c1 := P_4.out.cell 1
      have p_c2 := P_4.out.cell 2
      simp at p_c0 p_c1 p_c2
      have p_l := P_4.out.lt
      go_wp2_with fail
      refine (HTK.out t r k 1 HT.out).mono ?_
      rw [HA.out]
      rintro e w5 ⟨rfl, hb5⟩
      clear p_c0 p_c1 p_c2 p_l
      have HC5 := Lib.hid (HA4.out.trans (hb5.mono HA4.out.size))
      have HW5 := Lib.hid (HW4.out.trans (HC5.out.mono HW4.out.size))
      have P_5 := Lib.hid (P_4.out.below HC5.out P_4.out.lt)
      clear hb5
      have HA5 := Lib.hid (show Below w5.heap.size w5 (w5.alloc (.cells #[.string (takR t r k 1).1.1, .int .i64 (takR t r k 1).1.2.1, .int .i64 (takR t r k 1).1.2.2] 24)) from ((Below.refl _ _).alloc (Nat.le_refl _) _))
      have p_c0 := P_5.out.cell 0
      have p_c1 := P_5.out.cell 1
      have p_c2 := P_5.out.cell 2
      simp at p_c0 p_c1 p_c2
      have p_l := P_5.out.lt
      go_wp2_with fail
      refine (HPU.out t r k ⟨#[120]⟩ HT.out HX.out).mono ?_
      rw [HB.out]
      rintro e w6 ⟨rfl, hb6⟩
      clear p_c0 p_c1 p_c2 p_l
      have HC6 := Lib.hid (HA5.out.trans (hb6.mono HA5.out.size))
      have HW6 := Lib.hid (HW5.out.trans (HC6.out.mono HW5.out.size))
      have P_6 := Lib.hid (P_5.out.below HC6.out P_5.out.lt)
      have X_6 := Lib.hid ((Box.new w5 #[.string (takR t r k 1).1.1, .int .i64 (takR t r k 1).1.2.1, .int .i64 (takR t r k 1).1.2.2] 24).below hb6 (by simp only [World.size_alloc]; omega))
      clear hb6
      have HA6 := Lib.hid (show Below w6.heap.size w6 (w6.alloc (.cells #[.string (putR t r k ⟨#[120]⟩).1.1, .int .i64 (putR t r k ⟨#[120]⟩).1.2.1, .int .i64 (putR t r k ⟨#[120]⟩).1.2.2] 24)) from ((Below.refl _ _).alloc (Nat.le_refl _) _))
      have p_c0 := P_6.out.cell 0
      have p_c1 := P_6.out.cell 1
      have p_c2 := P_6.out.cell 2
      have x_c0 := X_6.out.cell 0
      have x_c1 := X_6.out.cell 1
      have x_c2 := X_6.out.cell 2
      simp at p_c0 p_c1 p_c2 x_c0 x_c1 x_c2
      have p_l := P_6.out.lt
      have x_l := X_6.out.lt
      go_wp2_with fail
      go_ret
      exact ⟨rfl, HW6.out.trans (HA6.out.mono HW6.out.size)⟩
    have HR := Lib.hid (show rdyR t r k = (true, true) by rw [hq, decide_eq_false h1, decide_eq_true h2, decide_eq_true (show t.size < 8 by omega), decide_eq_false h3] <;> rfl)
    have HA := Lib.hid (show (takR t r k 1).2.2 = 0 by rw [tak_code hp, if_neg h3, if_neg h1])
    have HB := Lib.hid (show (putR t r k ⟨#[120]⟩).2.2 = 1 by rw [put_code hp rfl, if_pos h2])
    have HPP := Lib.hid hp
    have er : (r == 0) = false := by rw [beq_eq_false_iff_ne]; exact h3
    have ek : (k == 0) = true := by rw [beq_iff_eq]; exact h2
    clear hp hq hrk hr5 h1 h2 h3 h4
    have HA1 := Lib.hid (show Below w1.heap.size w1 (w1.alloc (.cells #[.string t, .int .i64 r, .int .i64 k] 24)) from ((Below.refl _ _).alloc (Nat.le_refl _) _))
    go_wp2_with fail
    refine (HM.out t r k HT.out).mono ?_
    rw [HR.out]
    rintro e w2 ⟨rfl, hb2⟩
    have HC2 := Lib.hid (HA1.out.trans (hb2.mono HA1.out.size))
    have HW2 := Lib.hid (HW1.out.trans (HC2.out.mono HW1.out.size))
    have P_2 := Lib.hid ((Box.new w1 #[.string t, .int .i64 r, .int .i64 k] 24).below hb2 (by simp only [World.size_alloc]; omega))
    clear hb2
    have HA2 := Lib.hid (show Below w2.heap.size w2 w2 from (Below.refl _ _))
    have p_c0 := P_2.out.cell 0
    have p_c1 := P_2.out.cell 1
    have p_c2 := P_2.out.cell 2
    simp at p_c0 p_c1 p_c2
    have p_l := P_2.out.lt
    go_wp2_with fail
    refine (pipeReady_any t r k HT.out).mono ?_
    rw [HR.out]
    rintro e w3 ⟨rfl, hb3⟩
    clear p_c0 p_c1 p_c2 p_l
    have HC3 := Lib.hid (HA2.out.trans (hb3.mono HA2.out.size))
    have HW3 := Lib.hid (HW2.out.trans (HC3.out.mono HW2.out.size))
    have P_3 := Lib.hid (P_2.out.below HC3.out P_2.out.lt)
    clear hb3
    have HA3 := Lib.hid (show Below w3.heap.size w3 w3 from (Below.refl _ _))
    have p_c0 := P_3.out.cell 0
    have p_c1 := P_3.out.cell 1
    have p_c2 := P_3.out.cell 2
    simp at p_c0 p_c1 p_c2
    have p_l := P_3.out.lt
    go_wp2_with fail
    refine (HO.out t r k HT.out).mono ?_
    rw [HPP.out]
    rintro e w4 ⟨rfl, hb4⟩
    clear p_c0 p_c1 p_c2 p_l
    have HC4 := Lib.hid (HA3.out.trans (hb4.mono HA3.out.size))
    have HW4 := Lib.hid (HW3.out.trans (HC4.out.mono HW3.out.size))
    have P_4 := Lib.hid (P_3.out.below HC4.out P_3.out.lt)
    clear hb4
    have HA4 := Lib.hid (show Below w4.heap.size w4 w4 from (Below.refl _ _))
    have p_c0 := P_4.out.cell 0
    have p_c1 := P_4.out.cell 1
    have p_c2 := P_4.out.cell 2
    simp at p_c0 p_c1 p_c2
    have p_l := P_4.out.lt
    go_wp2_with fail
    refine (HTK.out t r k 1 HT.out).mono ?_
    rw [HA.out]
    rintro e w5 ⟨rfl, hb5⟩
    clear p_c0 p_c1 p_c2 p_l
    have HC5 := Lib.hid (HA4.out.trans (hb5.mono HA4.out.size))
    have HW5 := Lib.hid (HW4.out.trans (HC5.out.mono HW4.out.size))
    have P_5 := Lib.hid (P_4.out.below HC5.out P_4.out.lt)
    clear hb5
    have HA5 := Lib.hid (show Below w5.heap.size w5 (w5.alloc (.cells #[.string (takR t r k 1).1.1, .int .i64 (takR t r k 1).1.2.1, .int .i64 (takR t r k 1).1.2.2] 24)) from ((Below.refl _ _).alloc (Nat.le_refl _) _))
    have p_c0 := P_5.out.cell 0
    have p_c1 := P_5.out.cell 1
    have p_c2 := P_5.out.cell 2
    simp at p_c0 p_c1 p_c2
    have p_l := P_5.out.lt
    go_wp2_with fail
    refine (HPU.out t r k ⟨#[120]⟩ HT.out HX.out).mono ?_
    rw [HB.out]
    rintro e w6 ⟨rfl, hb6⟩
    clear p_c0 p_c1 p_c2 p_l
    have HC6 := Lib.hid (HA5.out.trans (hb6.mono HA5.out.size))
    have HW6 := Lib.hid (HW5.out.trans (HC6.out.mono HW5.out.size))
    have P_6 := Lib.hid (P_5.out.below HC6.out P_5.out.lt)
    have X_6 := Lib.hid ((Box.new w5 #[.string (takR t r k 1).1.1, .int .i64 (takR t r k 1).1.2.1, .int .i64 (takR t r k 1).1.2.2] 24).below hb6 (by simp only [World.size_alloc]; omega))
    clear hb6
    have HA6 := Lib.hid (show Below w6.heap.size w6 (w6.alloc (.cells #[.string (putR t r k ⟨#[120]⟩).1.1, .int .i64 (putR t r k ⟨#[120]⟩).1.2.1, .int .i64 (putR t r k ⟨#[120]⟩).1.2.2] 24)) from ((Below.refl _ _).alloc (Nat.le_refl _) _))
    have p_c0 := P_6.out.cell 0
    have p_c1 := P_6.out.cell 1
    have p_c2 := P_6.out.cell 2
    have x_c0 := X_6.out.cell 0
    have x_c1 := X_6.out.cell 1
    have x_c2 := X_6.out.cell 2
    simp at p_c0 p_c1 p_c2 x_c0 x_c1 x_c2
    have p_l := P_6.out.lt
    have x_l := X_6.out.lt
    go_wp2_with fail
    go_ret
    exact ⟨rfl, HW6.out.trans (HA6.out.mono HW6.out.size)⟩
  by_cases h4 : t.size = 8
  case pos =>
    have HR := Lib.hid (show rdyR t r k = (true, false) by rw [hq, decide_eq_false h1, decide_eq_false h2, decide_eq_false (show ¬ t.size < 8 by omega), decide_eq_false h3] <;> rfl)
    have HA := Lib.hid (show (takR t r k 1).2.2 = 0 by rw [tak_code hp, if_neg h3, if_neg h1])
    have HB := Lib.hid (show (putR t r k ⟨#[120]⟩).2.2 = 2 by rw [put_code hp rfl, if_neg h2, if_neg h3, if_pos h4])
    have HPP := Lib.hid hp
    have er : (r == 0) = false := by rw [beq_eq_false_iff_ne]; exact h3
    have ek : (k == 0) = false := by rw [beq_eq_false_iff_ne]; exact h2
    clear hp hq hrk hr5 h1 h2 h3 h4
    have HA1 := Lib.hid (show Below w1.heap.size w1 (w1.alloc (.cells #[.string t, .int .i64 r, .int .i64 k] 24)) from ((Below.refl _ _).alloc (Nat.le_refl _) _))
    go_wp2_with fail
    refine (HM.out t r k HT.out).mono ?_
    rw [HR.out]
    rintro e w2 ⟨rfl, hb2⟩
    have HC2 := Lib.hid (HA1.out.trans (hb2.mono HA1.out.size))
    have HW2 := Lib.hid (HW1.out.trans (HC2.out.mono HW1.out.size))
    have P_2 := Lib.hid ((Box.new w1 #[.string t, .int .i64 r, .int .i64 k] 24).below hb2 (by simp only [World.size_alloc]; omega))
    clear hb2
    have HA2 := Lib.hid (show Below w2.heap.size w2 w2 from (Below.refl _ _))
    have p_c0 := P_2.out.cell 0
    have p_c1 := P_2.out.cell 1
    have p_c2 := P_2.out.cell 2
    simp at p_c0 p_c1 p_c2
    have p_l := P_2.out.lt
    go_wp2_with fail
    refine (pipeReady_any t r k HT.out).mono ?_
    rw [HR.out]
    rintro e w3 ⟨rfl, hb3⟩
    clear p_c0 p_c1 p_c2 p_l
    have HC3 := Lib.hid (HA2.out.trans (hb3.mono HA2.out.size))
    have HW3 := Lib.hid (HW2.out.trans (HC3.out.mono HW2.out.size))
    have P_3 := Lib.hid (P_2.out.below HC3.out P_2.out.lt)
    clear hb3
    have HA3 := Lib.hid (show Below w3.heap.size w3 w3 from (Below.refl _ _))
    have p_c0 := P_3.out.cell 0
    have p_c1 := P_3.out.cell 1
    have p_c2 := P_3.out.cell 2
    simp at p_c0 p_c1 p_c2
    have p_l := P_3.out.lt
    go_wp2_with fail
    refine (HO.out t r k HT.out).mono ?_
    rw [HPP.out]
    rintro e w4 ⟨rfl, hb4⟩
    clear p_c0 p_c1 p_c2 p_l
    have HC4 := Lib.hid (HA3.out.trans (hb4.mono HA3.out.size))
    have HW4 := Lib.hid (HW3.out.trans (HC4.out.mono HW3.out.size))
    have P_4 := Lib.hid (P_3.out.below HC4.out P_3.out.lt)
    clear hb4
    have HA4 := Lib.hid (show Below w4.heap.size w4 w4 from (Below.refl _ _))
    have p_c0 := P_4.out.cell 0
    have p_c1 := P_4.out.cell 1
    have p_c2 := P_4.out.cell 2
    simp at p_c0 p_c1 p_c2
    have p_l := P_4.out.lt
    go_wp2_with fail
    refine (HTK.out t r k 1 HT.out).mono ?_
    rw [HA.out]
    rintro e w5 ⟨rfl, hb5⟩
    clear p_c0 p_c1 p_c2 p_l
    have HC5 := Lib.hid (HA4.out.trans (hb5.mono HA4.out.size))
    have HW5 := Lib.hid (HW4.out.trans (HC5.out.mono HW4.out.size))
    have P_5 := Lib.hid (P_4.out.below HC5.out P_4.out.lt)
    clear hb5
    have HA5 := Lib.hid (show Below w5.heap.size w5 (w5.alloc (.cells #[.string (takR t r k 1).1.1, .int .i64 (takR t r k 1).1.2.1, .int .i64 (takR t r k 1).1.2.2] 24)) from ((Below.refl _ _).alloc (Nat.le_refl _) _))
    have p_c0 := P_5.out.cell 0
    have p_c1 := P_5.out.cell 1
    have p_c2 := P_5.out.cell 2
    simp at p_c0 p_c1 p_c2
    have p_l := P_5.out.lt
    go_wp2_with fail
    refine (HPU.out t r k ⟨#[120]⟩ HT.out HX.out).mono ?_
    rw [HB.out]
    rintro e w6 ⟨rfl, hb6⟩
    clear p_c0 p_c1 p_c2 p_l
    have HC6 := Lib.hid (HA5.out.trans (hb6.mono HA5.out.size))
    have HW6 := Lib.hid (HW5.out.trans (HC6.out.mono HW5.out.size))
    have P_6 := Lib.hid (P_5.out.below HC6.out P_5.out.lt)
    have X_6 := Lib.hid ((Box.new w5 #[.string (takR t r k 1).1.1, .int .i64 (takR t r k 1).1.2.1, .int .i64 (takR t r k 1).1.2.2] 24).below hb6 (by simp only [World.size_alloc]; omega))
    clear hb6
    have HA6 := Lib.hid (show Below w6.heap.size w6 (w6.alloc (.cells #[.string (putR t r k ⟨#[120]⟩).1.1, .int .i64 (putR t r k ⟨#[120]⟩).1.2.1, .int .i64 (putR t r k ⟨#[120]⟩).1.2.2] 24)) from ((Below.refl _ _).alloc (Nat.le_refl _) _))
    have p_c0 := P_6.out.cell 0
    have p_c1 := P_6.out.cell 1
    have p_c2 := P_6.out.cell 2
    have x_c0 := X_6.out.cell 0
    have x_c1 := X_6.out.cell 1
    have x_c2 := X_6.out.cell 2
    simp at p_c0 p_c1 p_c2 x_c0 x_c1 x_c2
    have p_l := P_6.out.lt
    have x_l := X_6.out.lt
    go_wp2_with fail
    go_ret
    exact ⟨rfl, HW6.out.trans (HA6.out.mono HW6.out.size)⟩
  have HR := Lib.hid (show rdyR t r k = (true, true) by rw [hq, decide_eq_false h1, decide_eq_false h2, decide_eq_true (show t.size < 8 by omega), decide_eq_false h3] <;> rfl)
  have HA := Lib.hid (show (takR t r k 1).2.2 = 0 by rw [tak_code hp, if_neg h3, if_neg h1])
  have HB := Lib.hid (show (putR t r k ⟨#[120]⟩).2.2 = 0 by rw [put_code hp rfl, if_neg h2, if_neg h3, if_neg h4])
  have HPP := Lib.hid hp
  have er : (r == 0) = false := by rw [beq_eq_false_iff_ne]; exact h3
  have ek : (k == 0) = false := by rw [beq_eq_false_iff_ne]; exact h2
  clear hp hq hrk hr5 h1 h2 h3 h4
  have HA1 := Lib.hid (show Below w1.heap.size w1 (w1.alloc (.cells #[.string t, .int .i64 r, .int .i64 k] 24)) from ((Below.refl _ _).alloc (Nat.le_refl _) _))
  go_wp2_with fail
  refine (HM.out t r k HT.out).mono ?_
  rw [HR.out]
  rintro e w2 ⟨rfl, hb2⟩
  have HC2 := Lib.hid (HA1.out.trans (hb2.mono HA1.out.size))
  have HW2 := Lib.hid (HW1.out.trans (HC2.out.mono HW1.out.size))
  have P_2 := Lib.hid ((Box.new w1 #[.string t, .int .i64 r, .int .i64 k] 24).below hb2 (by simp only [World.size_alloc]; omega))
  clear hb2
  have HA2 := Lib.hid (show Below w2.heap.size w2 w2 from (Below.refl _ _))
  have p_c0 := P_2.out.cell 0
  have p_c1 := P_2.out.cell 1
  have p_c2 := P_2.out.cell 2
  simp at p_c0 p_c1 p_c2
  have p_l := P_2.out.lt
  go_wp2_with fail
  refine (pipeReady_any t r k HT.out).mono ?_
  rw [HR.out]
  rintro e w3 ⟨rfl, hb3⟩
  clear p_c0 p_c1 p_c2 p_l
  have HC3 := Lib.hid (HA2.out.trans (hb3.mono HA2.out.size))
  have HW3 := Lib.hid (HW2.out.trans (HC3.out.mono HW2.out.size))
  have P_3 := Lib.hid (P_2.out.below HC3.out P_2.out.lt)
  clear hb3
  have HA3 := Lib.hid (show Below w3.heap.size w3 w3 from (Below.refl _ _))
  have p_c0 := P_3.out.cell 0
  have p_c1 := P_3.out.cell 1
  have p_c2 := P_3.out.cell 2
  simp at p_c0 p_c1 p_c2
  have p_l := P_3.out.lt
  go_wp2_with fail
  refine (HO.out t r k HT.out).mono ?_
  rw [HPP.out]
  rintro e w4 ⟨rfl, hb4⟩
  clear p_c0 p_c1 p_c2 p_l
  have HC4 := Lib.hid (HA3.out.trans (hb4.mono HA3.out.size))
  have HW4 := Lib.hid (HW3.out.trans (HC4.out.mono HW3.out.size))
  have P_4 := Lib.hid (P_3.out.below HC4.out P_3.out.lt)
  clear hb4
  have HA4 := Lib.hid (show Below w4.heap.size w4 w4 from (Below.refl _ _))
  have p_c0 := P_4.out.cell 0
  have p_c1 := P_4.out.cell 1
  have p_c2 := P_4.out.cell 2
  simp at p_c0 p_c1 p_c2
  have p_l := P_4.out.lt
  go_wp2_with fail
  refine (HTK.out t r k 1 HT.out).mono ?_
  rw [HA.out]
  rintro e w5 ⟨rfl, hb5⟩
  clear p_c0 p_c1 p_c2 p_l
  have HC5 := Lib.hid (HA4.out.trans (hb5.mono HA4.out.size))
  have HW5 := Lib.hid (HW4.out.trans (HC5.out.mono HW4.out.size))
  have P_5 := Lib.hid (P_4.out.below HC5.out P_4.out.lt)
  clear hb5
  have HA5 := Lib.hid (show Below w5.heap.size w5 (w5.alloc (.cells #[.string (takR t r k 1).1.1, .int .i64 (takR t r k 1).1.2.1, .int .i64 (takR t r k 1).1.2.2] 24)) from ((Below.refl _ _).alloc (Nat.le_refl _) _))
  have p_c0 := P_5.out.cell 0
  have p_c1 := P_5.out.cell 1
  have p_c2 := P_5.out.cell 2
  simp at p_c0 p_c1 p_c2
  have p_l := P_5.out.lt
  go_wp2_with fail
  refine (HPU.out t r k ⟨#[120]⟩ HT.out HX.out).mono ?_
  rw [HB.out]
  rintro e w6 ⟨rfl, hb6⟩
  clear p_c0 p_c1 p_c2 p_l
  have HC6 := Lib.hid (HA5.out.trans (hb6.mono HA5.out.size))
  have HW6 := Lib.hid (HW5.out.trans (HC6.out.mono HW5.out.size))
  have P_6 := Lib.hid (P_5.out.below HC6.out P_5.out.lt)
  have X_6 := Lib.hid ((Box.new w5 #[.string (takR t r k 1).1.1, .int .i64 (takR t r k 1).1.2.1, .int .i64 (takR t r k 1).1.2.2] 24).below hb6 (by simp only [World.size_alloc]; omega))
  clear hb6
  have HA6 := Lib.hid (show Below w6.heap.size w6 (w6.alloc (.cells #[.string (putR t r k ⟨#[120]⟩).1.1, .int .i64 (putR t r k ⟨#[120]⟩).1.2.1, .int .i64 (putR t r k ⟨#[120]⟩).1.2.2] 24)) from ((Below.refl _ _).alloc (Nat.le_refl _) _))
  have p_c0 := P_6.out.cell 0
  have p_c1 := P_6.out.cell 1
  have p_c2 := P_6.out.cell 2
  have x_c0 := X_6.out.cell 0
  have x_c1 := X_6.out.cell 1
  have x_c2 := X_6.out.cell 2
  simp at p_c0 p_c1 p_c2 x_c0 x_c1 x_c2
  have p_l := P_6.out.lt
  have x_l := X_6.out.lt
  go_wp2_with fail
  go_ret
  exact ⟨rfl, HW6.out.trans (HA6.out.mono HW6.out.size)⟩
end
end Go.Proofs.Ytjjkkfemhfhciaa
