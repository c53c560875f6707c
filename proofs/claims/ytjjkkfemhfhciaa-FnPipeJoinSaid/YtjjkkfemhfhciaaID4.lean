/-
  The walk of FnPipeJoin.
-/
import Derived.Test.YtjjkkfemhfhciaaIDraw2
import Derived.Test.YtjjkkfemhfhciaaIEx
namespace Go.Proofs.Ytjjkkfemhfhciaa
open Go.RowKit

section
variable {A : Option Addr} {n c : Nat} {w : World}
theorem joi_fine {t : ByteArray} {r k : Int} {b : Bool} (h : (joiR t r k b).2 = true) : piB t r k = true ∧ (0 ≤ r ∧ r ≤ 99) ∧ (0 ≤ k ∧ k ≤ 99) ∧ piB t (if b = true then r + 1 else r) (if b = true then k else k + 1) = true ∧ joiR t r k b = ((t, if b = true then r + 1 else r, if b = true then k else k + 1), true) ∧ leaR t (if b = true then r + 1 else r) (if b = true then k else k + 1) b = ((if r = 0 then ⟨#[]⟩ else t, r, k), true) := by
  unfold joiR at h ⊢
  by_cases hc : (piB t r k && !decide (r + k = 0)) = true
  case neg => rw [if_neg hc] at h; simp at h
  rw [if_pos hc] at h ⊢
  rw [Bool.and_eq_true] at hc
  obtain ⟨hp, _⟩ := hc
  obtain ⟨h1, h2⟩ := pi_in hp
  cases b
  · simp only [Bool.false_eq_true, if_false] at h ⊢
    by_cases h3 : k < 99
    case neg => rw [if_neg h3] at h; simp at h
    rw [if_pos h3]
    have hp2 : piB t r (k + 1) = true := by
      unfold piB at hp ⊢
      simp only [Bool.and_eq_true] at hp ⊢
      exact ⟨hp.1, hp.2.1, inB_of (by omega), hp.2.2.2⟩
    refine ⟨hp, h1, h2, hp2, rfl, ?_⟩
    unfold leaR
    rw [hp2]
    simp only [Bool.false_eq_true, if_false]
    rw [decide_eq_false (by omega), if_pos (by rfl)]
    simp
  · simp only [if_true] at h ⊢
    by_cases h3 : r < 99
    case neg => rw [if_neg h3] at h; simp at h
    rw [if_pos h3]
    have hp2 : piB t (r + 1) k = true := by
      unfold piB at hp ⊢
      simp only [Bool.and_eq_true, Bool.or_eq_true, decide_eq_true_eq] at hp ⊢
      exact ⟨hp.1, inB_of (by omega), hp.2.2.1, Or.inl (by omega)⟩
    refine ⟨hp, h1, h2, hp2, rfl, ?_⟩
    unfold leaR
    rw [hp2]
    simp only [if_true]
    rw [decide_eq_false (by omega), if_pos (by rfl)]
    have e : (r + 1 = 1) = (r = 0) := by apply propext; omega
    simp [e]
set_option maxHeartbeats 2000000 in
set_option maxRecDepth 100000 in
theorem dPipeJoin_walk (hm : IJoi 21) (ho : IOk 19) (hl : ILea 22) (hc : Code w A n) (hcap : n ≤ c) (hcap2 : c ≤ maxLen) : Calls Try.prog 6 #[.slice A n c] w fun e w' => e = .returned (.bool true) ∧ Below w.heap.size w w' := by
  have hn := hc.1
  unfold maxLen at hn
  by_cases hbig : (1048576 : Int) < n
  · go_enter Try.func6, Try.ntmps6
    go_wp2_with fail
    go_ret
    exact ⟨rfl, Below.refl _ _⟩
  have HCODE := Lib.hid hc
  clear hc
  have HM := Lib.hid hm
  clear hm
  have HO := Lib.hid ho
  clear ho
  have HL := Lib.hid hl
  clear hl
  have HW0 := Lib.hid (Below.refl w.heap.size w)
  go_enter Try.func6, Try.ntmps6
  have HA0 := Lib.hid (show Below w.heap.size w w from (Below.refl _ _))
  go_wp2_with fail
  refine (dDrawPipeJoin_any HCODE.out hcap hcap2).mono ?_
  rintro e w1 ⟨t, r, k, b, rfl, ts, ⟨ra, rb⟩, ⟨ka, kb⟩, hb1⟩
  have HC1 := Lib.hid (HA0.out.trans (hb1.mono HA0.out.size))
  have HW1 := Lib.hid (HW0.out.trans (HC1.out.mono HW0.out.size))
  clear hb1
  have HT := Lib.hid (show t.size ≤ maxLen by unfold maxLen; omega)
  by_cases hp : (joiR t r k b).2 = true
  case neg =>
    have he : (joiR t r k b).2 = false := by simpa using hp
    clear hp
    generalize hRe : joiR t r k b = R at he
    obtain ⟨R1, R2⟩ := R
    dsimp only at he
    subst he
    have HRE := Lib.hid hRe
    clear hRe
    have HA1 := Lib.hid (show Below w1.heap.size w1 (w1.alloc (.cells #[.string t, .int .i64 r, .int .i64 k] 24)) from ((Below.refl _ _).alloc (Nat.le_refl _) _))
    go_wp2_with fail
    refine (HM.out t r k b HT.out).mono ?_
    rw [HRE.out]
    rintro e w2 ⟨rfl, hb2⟩
    have HC2 := Lib.hid (HA1.out.trans (hb2.mono HA1.out.size))
    have HW2 := Lib.hid (HW1.out.trans (HC2.out.mono HW1.out.size))
    have P_2 := Lib.hid ((Box.new w1 #[.string t, .int .i64 r, .int .i64 k] 24).below hb2 (by simp only [World.size_alloc]; omega))
    clear hb2
    have HA2 := Lib.hid (show Below w2.heap.size w2 (w2.alloc (.cells #[.string R1.1, .int .i64 R1.2.1, .int .i64 R1.2.2] 24)) from ((Below.refl _ _).alloc (Nat.le_refl _) _))
    have p_c0 := P_2.out.cell 0
    have p_c1 := P_2.out.cell 1
    have p_c2 := P_2.out.cell 2
    simp at p_c0 p_c1 p_c2
    have p_l := P_2.out.lt
    go_wp2_with fail
    refine (pipeJoin_any t r k b HT.out).mono ?_
    rw [HRE.out]
    rintro e w3 ⟨rfl, hb3⟩
    clear p_c0 p_c1 p_c2 p_l
    have HC3 := Lib.hid (HA2.out.trans (hb3.mono HA2.out.size))
    have HW3 := Lib.hid (HW2.out.trans (HC3.out.mono HW2.out.size))
    have P_3 := Lib.hid (P_2.out.below HC3.out P_2.out.lt)
    have X_3 := Lib.hid ((Box.new w2 #[.string R1.1, .int .i64 R1.2.1, .int .i64 R1.2.2] 24).below hb3 (by simp only [World.size_alloc]; omega))
    clear hb3
    have HA3 := Lib.hid (show Below w3.heap.size w3 (w3.alloc (.cells #[.string R1.1, .int .i64 R1.2.1, .int .i64 R1.2.2] 24)) from ((Below.refl _ _).alloc (Nat.le_refl _) _))
    have p_c0 := P_3.out.cell 0
    have p_c1 := P_3.out.cell 1
    have p_c2 := P_3.out.cell 2
    have x_c0 := X_3.out.cell 0
    have x_c1 := X_3.out.cell 1
    have x_c2 := X_3.out.cell 2
    simp at p_c0 p_c1 p_c2 x_c0 x_c1 x_c2
    have p_l := P_3.out.lt
    have x_l := X_3.out.lt
    go_wp2_with fail
    go_ret
    exact ⟨rfl, HW3.out.trans (HA3.out.mono HW3.out.size)⟩
  obtain ⟨a1, a2, a3, a4, a5, a6⟩ := joi_fine hp
  have HRE := Lib.hid a5
  have HOK := Lib.hid a4
  have HLE := Lib.hid a6
  clear hp a1 a4 a5 a6
  generalize (if b = true then r + 1 else r) = r' at HRE HOK HLE
  generalize (if b = true then k else k + 1) = k' at HRE HOK HLE
  have HA1 := Lib.hid (show Below w1.heap.size w1 (w1.alloc (.cells #[.string t, .int .i64 r, .int .i64 k] 24)) from ((Below.refl _ _).alloc (Nat.le_refl _) _))
  go_wp2_with fail
  refine (HM.out t r k b HT.out).mono ?_
  rw [HRE.out]
  rintro e w2 ⟨rfl, hb2⟩
  have HC2 := Lib.hid (HA1.out.trans (hb2.mono HA1.out.size))
  have HW2 := Lib.hid (HW1.out.trans (HC2.out.mono HW1.out.size))
  have P_2 := Lib.hid ((Box.new w1 #[.string t, .int .i64 r, .int .i64 k] 24).below hb2 (by simp only [World.size_alloc]; omega))
  clear hb2
  have HA2 := Lib.hid (show Below w2.heap.size w2 (w2.alloc (.cells #[.string t, .int .i64 r', .int .i64 k'] 24)) from ((Below.refl _ _).alloc (Nat.le_refl _) _))
  have p_c0 := P_2.out.cell 0
  have p_c1 := P_2.out.cell 1
  have p_c2 := P_2.out.cell 2
  simp at p_c0 p_c1 p_c2
  have p_l := P_2.out.lt
  go_wp2_with fail
  refine (pipeJoin_any t r k b HT.out).mono ?_
  rw [HRE.out]
  rintro e w3 ⟨rfl, hb3⟩
  clear p_c0 p_c1 p_c2 p_l
  have HC3 := Lib.hid (HA2.out.trans (hb3.mono HA2.out.size))
  have HW3 := Lib.hid (HW2.out.trans (HC3.out.mono HW2.out.size))
  have P_3 := Lib.hid (P_2.out.below HC3.out P_2.out.lt)
  have X_3 := Lib.hid ((Box.new w2 #[.string t, .int .i64 r', .int .i64 k'] 24).below hb3 (by simp only [World.size_alloc]; omega))
  clear hb3
  by_cases h0 : r = 0
  case pos =>
    subst h0
    rw [if_pos rfl] at HLE
    by_cases h9 : (⟨#[]⟩ : ByteArray) = t
    case pos =>
      subst h9
      have HA3 := Lib.hid (show Below w3.heap.size w3 (w3.alloc (.cells #[.string (⟨#[]⟩ : ByteArray), .int .i64 r', .int .i64 k'] 24)) from ((Below.refl _ _).alloc (Nat.le_refl _) _))
      have p_c0 := P_3.out.cell 0
      have p_c1 := P_3.out.cell 1
      have p_c2 := P_3.out.cell 2
      have x_c0 := X_3.out.cell 0
      have x_c1 := X_3.out.cell 1
      have x_c2 := X_3.out.cell 2
      simp at p_c0 p_c1 p_c2 x_c0 x_c1 x_c2
      have p_l := P_3.out.lt
      have x_l := X_3.out.lt
      go_wp2_with fail
      refine (HL.out (⟨#[]⟩ : ByteArray) r' k' b HT.out).mono ?_
      rw [HLE.out]
      rintro e w4 ⟨rfl, hb4⟩
      clear p_c0 p_c1 p_c2 x_c0 x_c1 x_c2 p_l x_l
      have HC4 := Lib.hid (HA3.out.trans (hb4.mono HA3.out.size))
      have HW4 := Lib.hid (HW3.out.trans (HC4.out.mono HW3.out.size))
      have P_4 := Lib.hid (P_3.out.below HC4.out P_3.out.lt)
      have X_4 := Lib.hid (X_3.out.below HC4.out X_3.out.lt)
      have Y_4 := Lib.hid ((Box.new w3 #[.string (⟨#[]⟩ : ByteArray), .int .i64 r', .int .i64 k'] 24).below hb4 (by simp only [World.size_alloc]; omega))
      clear hb4
      have HA4 := Lib.hid (show Below w4.heap.size w4 (w4.alloc (.cells #[.string ⟨#[]⟩, .int .i64 0, .int .i64 k] 24)) from ((Below.refl _ _).alloc (Nat.le_refl _) _))
      have p_c0 := P_4.out.cell 0
      have p_c1 := P_4.out.cell 1
      have p_c2 := P_4.out.cell 2
      have x_c0 := X_4.out.cell 0
      have x_c1 := X_4.out.cell 1
      have x_c2 := X_4.out.cell 2
      have y_c0 := Y_4.out.cell 0
      have y_c1 := Y_4.out.cell 1
      have y_c2 := Y_4.out.cell 2
      simp at p_c0 p_c1 p_c2 x_c0 x_c1 x_c2 y_c0 y_c1 y_c2
      have p_l := P_4.out.lt
      have x_l := X_4.out.lt
      have y_l := Y_4.out.lt
      go_wp2_with fail
      refine (HO.out (⟨#[]⟩ : ByteArray) r' k' HT.out).mono ?_
      rw [HOK.out]
      rintro e w5 ⟨rfl, hb5⟩
      clear p_c0 p_c1 p_c2 x_c0 x_c1 x_c2 y_c0 y_c1 y_c2 p_l x_l y_l
      have HC5 := Lib.hid (HA4.out.trans (hb5.mono HA4.out.size))
      have HW5 := Lib.hid (HW4.out.trans (HC5.out.mono HW4.out.size))
      have P_5 := Lib.hid (P_4.out.below HC5.out P_4.out.lt)
      have X_5 := Lib.hid (X_4.out.below HC5.out X_4.out.lt)
      have Y_5 := Lib.hid (Y_4.out.below HC5.out Y_4.out.lt)
      have Z_5 := Lib.hid ((Box.new w4 #[.string ⟨#[]⟩, .int .i64 0, .int .i64 k] 24).below hb5 (by simp only [World.size_alloc]; omega))
      clear hb5
      have HA5 := Lib.hid (show Below w5.heap.size w5 w5 from (Below.refl _ _))
      have p_c0 := P_5.out.cell 0
      have p_c1 := P_5.out.cell 1
      have p_c2 := P_5.out.cell 2
      have x_c0 := X_5.out.cell 0
      have x_c1 := X_5.out.cell 1
      have x_c2 := X_5.out.cell 2
      have y_c0 := Y_5.out.cell 0
      have y_c1 := Y_5.out.cell 1
      have y_c2 := Y_5.out.cell 2
      have z_c0 := Z_5.out.cell 0
      have z_c1 := Z_5.out.cell 1
      have z_c2 := Z_5.out.cell 2
      simp at p_c0 p_c1 p_c2 x_c0 x_c1 x_c2 y_c0 y_c1 y_c2 z_c0 z_c1 z_c2
      have p_l := P_5.out.lt
      have x_l := X_5.out.lt
      have y_l := Y_5.out.lt
      have z_l := Z_5.out.lt
      go_wp2_with fail
      go_ret
      exact ⟨rfl, HW5.out.trans (HA5.out.mono HW5.out.size)⟩
    have h1 : ¬ t.toList = [] := by
      intro e
      apply h9
      apply ByteArray.ext
      apply Array.ext'
      rw [ByteArray.toList_eq] at e
      rw [e]
    clear h9
    have HA3 := Lib.hid (show Below w3.heap.size w3 (w3.alloc (.cells #[.string t, .int .i64 r', .int .i64 k'] 24)) from ((Below.refl _ _).alloc (Nat.le_refl _) _))
    have p_c0 := P_3.out.cell 0
    have p_c1 := P_3.out.cell 1
    have p_c2 := P_3.out.cell 2
    have x_c0 := X_3.out.cell 0
    have x_c1 := X_3.out.cell 1
    have x_c2 := X_3.out.cell 2
    simp at p_c0 p_c1 p_c2 x_c0 x_c1 x_c2
    have p_l := P_3.out.lt
    have x_l := X_3.out.lt
    go_wp2_with fail
    refine (HL.out t r' k' b HT.out).mono ?_
    rw [HLE.out]
    rintro e w4 ⟨rfl, hb4⟩
    clear p_c0 p_c1 p_c2 x_c0 x_c1 x_c2 p_l x_l
    have HC4 := Lib.hid (HA3.out.trans (hb4.mono HA3.out.size))
    have HW4 := Lib.hid (HW3.out.trans (HC4.out.mono HW3.out.size))
    have P_4 := Lib.hid (P_3.out.below HC4.out P_3.out.lt)
    have X_4 := Lib.hid (X_3.out.below HC4.out X_3.out.lt)
    have Y_4 := Lib.hid ((Box.new w3 #[.string t, .int .i64 r', .int .i64 k'] 24).below hb4 (by simp only [World.size_alloc]; omega))
    clear hb4
    have HA4 := Lib.hid (show Below w4.heap.size w4 (w4.alloc (.cells #[.string ⟨#[]⟩, .int .i64 0, .int .i64 k] 24)) from ((Below.refl _ _).alloc (Nat.le_refl _) _))
    have p_c0 := P_4.out.cell 0
    have p_c1 := P_4.out.cell 1
    have p_c2 := P_4.out.cell 2
    have x_c0 := X_4.out.cell 0
    have x_c1 := X_4.out.cell 1
    have x_c2 := X_4.out.cell 2
    have y_c0 := Y_4.out.cell 0
    have y_c1 := Y_4.out.cell 1
    have y_c2 := Y_4.out.cell 2
    simp at p_c0 p_c1 p_c2 x_c0 x_c1 x_c2 y_c0 y_c1 y_c2
    have p_l := P_4.out.lt
    have x_l := X_4.out.lt
    have y_l := Y_4.out.lt
    go_wp2_with fail
    refine (HO.out t r' k' HT.out).mono ?_
    rw [HOK.out]
    rintro e w5 ⟨rfl, hb5⟩
    clear p_c0 p_c1 p_c2 x_c0 x_c1 x_c2 y_c0 y_c1 y_c2 p_l x_l y_l
    have HC5 := Lib.hid (HA4.out.trans (hb5.mono HA4.out.size))
    have HW5 := Lib.hid (HW4.out.trans (HC5.out.mono HW4.out.size))
    have P_5 := Lib.hid (P_4.out.below HC5.out P_4.out.lt)
    have X_5 := Lib.hid (X_4.out.below HC5.out X_4.out.lt)
    have Y_5 := Lib.hid (Y_4.out.below HC5.out Y_4.out.lt)
    have Z_5 := Lib.hid ((Box.new w4 #[.string ⟨#[]⟩, .int .i64 0, .int .i64 k] 24).below hb5 (by simp only [World.size_alloc]; omega))
    clear hb5
    have HA5 := Lib.hid (show Below w5.heap.size w5 w5 from (Below.refl _ _))
    have p_c0 := P_5.out.cell 0
    have p_c1 := P_5.out.cell 1
    have p_c2 := P_5.out.cell 2
    have x_c0 := X_5.out.cell 0
    have x_c1 := X_5.out.cell 1
    have x_c2 := X_5.out.cell 2
    have y_c0 := Y_5.out.cell 0
    have y_c1 := Y_5.out.cell 1
    have y_c2 := Y_5.out.cell 2
    have z_c0 := Z_5.out.cell 0
    have z_c1 := Z_5.out.cell 1
    have z_c2 := Z_5.out.cell 2
    simp at p_c0 p_c1 p_c2 x_c0 x_c1 x_c2 y_c0 y_c1 y_c2 z_c0 z_c1 z_c2
    have p_l := P_5.out.lt
    have x_l := X_5.out.lt
    have y_l := Y_5.out.lt
    have z_l := Z_5.out.lt
    go_wp2_with fail
    go_ret
    exact ⟨rfl, HW5.out.trans (HA5.out.mono HW5.out.size)⟩
  rw [if_neg h0] at HLE
  have e0 : (r == 0) = false := by rw [beq_eq_false_iff_ne]; exact h0
  clear h0
  have HA3 := Lib.hid (show Below w3.heap.size w3 (w3.alloc (.cells #[.string t, .int .i64 r', .int .i64 k'] 24)) from ((Below.refl _ _).alloc (Nat.le_refl _) _))
  have p_c0 := P_3.out.cell 0
  have p_c1 := P_3.out.cell 1
  have p_c2 := P_3.out.cell 2
  have x_c0 := X_3.out.cell 0
  have x_c1 := X_3.out.cell 1
  have x_c2 := X_3.out.cell 2
  simp at p_c0 p_c1 p_c2 x_c0 x_c1 x_c2
  have p_l := P_3.out.lt
  have x_l := X_3.out.lt
  go_wp2_with fail
  refine (HL.out t r' k' b HT.out).mono ?_
  rw [HLE.out]
  rintro e w4 ⟨rfl, hb4⟩
  clear p_c0 p_c1 p_c2 x_c0 x_c1 x_c2 p_l x_l
  have HC4 := Lib.hid (HA3.out.trans (hb4.mono HA3.out.size))
  have HW4 := Lib.hid (HW3.out.trans (HC4.out.mono HW3.out.size))
  have P_4 := Lib.hid (P_3.out.below HC4.out P_3.out.lt)
  have X_4 := Lib.hid (X_3.out.below HC4.out X_3.out.lt)
  have Y_4 := Lib.hid ((Box.new w3 #[.string t, .int .i64 r', .int .i64 k'] 24).below hb4 (by simp only [World.size_alloc]; omega))
  clear hb4
  have HA4 := Lib.hid (show Below w4.heap.size w4 (w4.alloc (.cells #[.string t, .int .i64 r, .int .i64 k] 24)) from ((Below.refl _ _).alloc (Nat.le_refl _) _))
  have p_c0 := P_4.out.cell 0
  have p_c1 := P_4.out.cell 1
  have p_c2 := P_4.out.cell 2
  have x_c0 := X_4.out.cell 0
  have x_c1 := X_4.out.cell 1
  have x_c2 := X_4.out.cell 2
  have y_c0 := Y_4.out.cell 0
  have y_c1 := Y_4.out.cell 1
  have y_c2 := Y_4.out.cell 2
  simp at p_c0 p_c1 p_c2 x_c0 x_c1 x_c2 y_c0 y_c1 y_c2
  have p_l := P_4.out.lt
  have x_l := X_4.out.lt
  have y_l := Y_4.out.lt
  go_wp2_with fail
  refine (HO.out t r' k' HT.out).mono ?_
  rw [HOK.out]
  rintro e w5 ⟨rfl, hb5⟩
  clear p_c0 p_c1 p_c2 x_c0 x_c1 x_c2 y_c0 y_c1 y_c2 p_l x_l y_l
  have HC5 := Lib.hid (HA4.out.trans (hb5.mono HA4.out.size))
  have HW5 := Lib.hid (HW4.out.trans (HC5.out.mono HW4.out.size))
  have P_5 := Lib.hid (P_4.out.below HC5.out P_4.out.lt)
  have X_5 := Lib.hid (X_4.out.below HC5.out X_4.out.lt)
  have Y_5 := Lib.hid (Y_4.out.below HC5.out Y_4.out.lt)
  have Z_5 := Lib.hid ((Box.new w4 #[.string t, .int .i64 r, .int .i64 k] 24).below hb5 (by simp only [World.size_alloc]; omega))
  clear hb5
  have HA5 := Lib.hid (show Below w5.heap.size w5 w5 from (Below.refl _ _))
  have p_c0 := P_5.out.cell 0
  have p_c1 := P_5.out.cell 1
  have p_c2 := P_5.out.cell 2
  have x_c0 := X_5.out.cell 0
  have x_c1 := X_5.out.cell 1
  have x_c2 := X_5.out.cell 2
  have y_c0 := Y_5.out.cell 0
  have y_c1 := Y_5.out.cell 1
  have y_c2 := Y_5.out.cell 2
  have z_c0 := Z_5.out.cell 0
  have z_c1 := Z_5.out.cell 1
  have z_c2 := Z_5.out.cell 2
  simp at p_c0 p_c1 p_c2 x_c0 x_c1 x_c2 y_c0 y_c1 y_c2 z_c0 z_c1 z_c2
  have p_l := P_5.out.lt
  have x_l := X_5.out.lt
  have y_l := Y_5.out.lt
  have z_l := Z_5.out.lt
  go_wp2_with fail
  go_ret
  exact ⟨rfl, HW5.out.trans (HA5.out.mono HW5.out.size)⟩
end
end Go.Proofs.Ytjjkkfemhfhciaa
