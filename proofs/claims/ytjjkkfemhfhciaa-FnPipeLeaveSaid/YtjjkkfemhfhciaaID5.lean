/-
  The walk of FnPipeLeave.
-/
import Derived.Test.YtjjkkfemhfhciaaIDraw2
import Derived.Test.YtjjkkfemhfhciaaIEx
namespace Go.Proofs.Ytjjkkfemhfhciaa
open Go.RowKit

section
variable {A : Option Addr} {n c : Nat} {w : World}
theorem lea_fine {t : ByteArray} {r k : Int} {b : Bool} (h : (leaR t r k b).2 = true) : ∃ (t' : ByteArray) (r' k' : Int), leaR t r k b = ((t', r', k'), true) ∧ piB t' r' k' = true ∧ (t' = t ∨ (r' = 0 ∧ t' = ⟨#[]⟩)) := by
  unfold leaR at h ⊢
  by_cases hc : (piB t r k && !decide ((if b = true then r else k) = 0)) = true
  case neg => rw [if_neg hc] at h; simp at h
  rw [if_pos hc] at h ⊢
  rw [Bool.and_eq_true] at hc
  obtain ⟨hp, hx⟩ := hc
  obtain ⟨h1, h2⟩ := pi_in hp
  have hz : (⟨#[]⟩ : ByteArray).size = 0 := rfl
  cases b
  · simp only [Bool.false_eq_true, if_false] at h hx ⊢
    have hx' : ¬ k = 0 := by simpa using hx
    by_cases h3 : r = 0
    · rw [if_pos h3]
      refine ⟨_, _, _, rfl, ?_, Or.inr ⟨h3, rfl⟩⟩
      unfold piB
      rw [hz, inB_of (by omega), inB_of (by omega)]
      simp
    · rw [if_neg h3]
      refine ⟨_, _, _, rfl, ?_, Or.inl rfl⟩
      unfold piB at hp ⊢
      simp only [Bool.and_eq_true] at hp ⊢
      exact ⟨hp.1, hp.2.1, inB_of (by omega), hp.2.2.2⟩
  · simp only [if_true] at h hx ⊢
    have hx' : ¬ r = 0 := by simpa using hx
    by_cases h3 : r = 1
    · rw [if_pos h3]
      refine ⟨_, _, _, rfl, ?_, Or.inr ⟨by omega, rfl⟩⟩
      unfold piB
      rw [hz, inB_of (by omega), inB_of (by omega)]
      simp
    · rw [if_neg h3]
      refine ⟨_, _, _, rfl, ?_, Or.inl rfl⟩
      unfold piB at hp ⊢
      simp only [Bool.and_eq_true, Bool.or_eq_true, decide_eq_true_eq] at hp ⊢
      exact ⟨hp.1, inB_of (by omega), hp.2.2.1, Or.inl (by omega)⟩
set_option maxHeartbeats 2000000 in
set_option maxRecDepth 100000 in
theorem dPipeLeave_walk (hm : ILea 22) (ho : IOk 19) (hc : Code w A n) (hcap : n ≤ c) (hcap2 : c ≤ maxLen) : Calls Try.prog 7 #[.slice A n c] w fun e w' => e = .returned (.bool true) ∧ Below w.heap.size w w' := by
  have hn := hc.1
  unfold maxLen at hn
  by_cases hbig : (1048576 : Int) < n
  · go_enter Try.func7, Try.ntmps7
    go_wp2_with fail
    go_ret
    exact ⟨rfl, Below.refl _ _⟩
  have HCODE := Lib.hid hc
  clear hc
  have HM := Lib.hid hm
  clear hm
  have HO := Lib.hid ho
  clear ho
  have HW0 := Lib.hid (Below.refl w.heap.size w)
  go_enter Try.func7, Try.ntmps7
  have HA0 := Lib.hid (show Below w.heap.size w w from (Below.refl _ _))
  go_wp2_with fail
  refine (dDrawPipeLeave_any HCODE.out hcap hcap2).mono ?_
  rintro e w1 ⟨t, r, k, b, rfl, ts, ⟨ra, rb⟩, ⟨ka, kb⟩, hb1⟩
  have HC1 := Lib.hid (HA0.out.trans (hb1.mono HA0.out.size))
  have HW1 := Lib.hid (HW0.out.trans (HC1.out.mono HW0.out.size))
  clear hb1
  have HT := Lib.hid (show t.size ≤ maxLen by unfold maxLen; omega)
  by_cases hp : (leaR t r k b).2 = true
  case neg =>
    have he : (leaR t r k b).2 = false := by simpa using hp
    clear hp
    generalize hRe : leaR t r k b = R at he
    obtain ⟨R1, R2⟩ := R
    dsimp only at he
    subst he
    have HRE := Lib.hid hRe
    clear hRe
    have HA1 := Lib.hid (show Below w1.heap.size w1 (w1.alloc (.cells #[.string t, .int .i64 r, .int .i64 k] 24)) from ((Below.refl _ _).alloc (Nat.le_refl _) _))
    go_wp2_with fail
    refine (HM.out t r k b HT.out).mono ?_
    rw [HRE.out]
    rintro e w2 ⟨rfl, hb2⟩
    have HC2 := Lib.hid (HA1.out.trans (hb2.mono HA1.out.size))
    have HW2 := Lib.hid (HW1.out.trans (HC2.out.mono HW1.out.size))
    have P_2 := Lib.hid ((Box.new w1 #[.string t, .int .i64 r, .int .i64 k] 24).below hb2 (by simp only [World.size_alloc]; omega))
    clear hb2
    have HA2 := Lib.hid (show Below w2.heap.size w2 (w2.alloc (.cells #[.string R1.1, .int .i64 R1.2.1, .int .i64 R1.2.2] 24)) from ((Below.refl _ _).alloc (Nat.le_refl _) _))
    have p_c0 := P_2.out.cell 0
    have p_c1 := P_2.out.cell 1
    have p_c2 := P_2.out.cell 2
    simp at p_c0 p_c1 p_c2
    have p_l := P_2.out.lt
    go_wp2_with fail
    refine (pipeLeave_any t r k b HT.out).mono ?_
    rw [HRE.out]
    rintro e w3 ⟨rfl, hb3⟩
    clear p_c0 p_c1 p_c2 p_l
    have HC3 := Lib.hid (HA2.out.trans (hb3.mono HA2.out.size))
    have HW3 := Lib.hid (HW2.out.trans (HC3.out.mono HW2.out.size))
    have P_3 := Lib.hid (P_2.out.below HC3.out P_2.out.lt)
    have X_3 := Lib.hid ((Box.new w2 #[.string R1.1, .int .i64 R1.2.1, .int .i64 R1.2.2] 24).below hb3 (by simp only [World.size_alloc]; omega))
    clear hb3
    have HA3 := Lib.hid (show Below w3.heap.size w3 (w3.alloc (.cells #[.string R1.1, .int .i64 R1.2.1, .int .i64 R1.2.2] 24)) from ((Below.refl _ _).alloc (Nat.le_refl _) _))
    have p_c0 := P_3.out.cell 0
    have p_c1 := P_3.out.cell 1
    have p_c2 := P_3.out.cell 2
    have x_c0 := X_3.out.cell 0
    have x_c1 := X_3.out.cell 1
    have x_c2 := X_3.out.cell 2
    simp at p_c0 p_c1 p_c2 x_c0 x_c1 x_c2
    have p_l := P_3.out.lt
    have x_l := X_3.out.lt
    go_wp2_with fail
    go_ret
    exact ⟨rfl, HW3.out.trans (HA3.out.mono HW3.out.size)⟩
  obtain ⟨t', r', k', a1, a2, a3⟩ := lea_fine hp
  have HRE := Lib.hid a1
  have HOK := Lib.hid a2
  clear hp a1 a2
  have hs' : t'.size ≤ maxLen := by
    rcases a3 with h | h
    · rw [h]; exact HT.out
    · rw [h.2]; exact Nat.zero_le _
  have HS := Lib.hid hs'
  clear hs'
  by_cases h0 : t' = t
  case pos =>
    subst h0
    clear a3
    have HA1 := Lib.hid (show Below w1.heap.size w1 (w1.alloc (.cells #[.string t', .int .i64 r, .int .i64 k] 24)) from ((Below.refl _ _).alloc (Nat.le_refl _) _))
    go_wp2_with fail
    refine (HM.out t' r k b HT.out).mono ?_
    rw [HRE.out]
    rintro e w2 ⟨rfl, hb2⟩
    have HC2 := Lib.hid (HA1.out.trans (hb2.mono HA1.out.size))
    have HW2 := Lib.hid (HW1.out.trans (HC2.out.mono HW1.out.size))
    have P_2 := Lib.hid ((Box.new w1 #[.string t', .int .i64 r, .int .i64 k] 24).below hb2 (by simp only [World.size_alloc]; omega))
    clear hb2
    have HA2 := Lib.hid (show Below w2.heap.size w2 (w2.alloc (.cells #[.string t', .int .i64 r', .int .i64 k'] 24)) from ((Below.refl _ _).alloc (Nat.le_refl _) _))
    have p_c0 := P_2.out.cell 0
    have p_c1 := P_2.out.cell 1
    have p_c2 := P_2.out.cell 2
    simp at p_c0 p_c1 p_c2
    have p_l := P_2.out.lt
    go_wp2_with fail
    refine (pipeLeave_any t' r k b HT.out).mono ?_
    rw [HRE.out]
    rintro e w3 ⟨rfl, hb3⟩
    clear p_c0 p_c1 p_c2 p_l
    have HC3 := Lib.hid (HA2.out.trans (hb3.mono HA2.out.size))
    have HW3 := Lib.hid (HW2.out.trans (HC3.out.mono HW2.out.size))
    have P_3 := Lib.hid (P_2.out.below HC3.out P_2.out.lt)
    have X_3 := Lib.hid ((Box.new w2 #[.string t', .int .i64 r', .int .i64 k'] 24).below hb3 (by simp only [World.size_alloc]; omega))
    clear hb3
    have HA3 := Lib.hid (show Below w3.heap.size w3 (w3.alloc (.cells #[.string t', .int .i64 r', .int .i64 k'] 24)) from ((Below.refl _ _).alloc (Nat.le_refl _) _))
    have p_c0 := P_3.out.cell 0
    have p_c1 := P_3.out.cell 1
    have p_c2 := P_3.out.cell 2
    have x_c0 := X_3.out.cell 0
    have x_c1 := X_3.out.cell 1
    have x_c2 := X_3.out.cell 2
    simp at p_c0 p_c1 p_c2 x_c0 x_c1 x_c2
    have p_l := P_3.out.lt
    have x_l := X_3.out.lt
    go_wp2_with fail
    refine (HO.out t' r' k' HS.out).mono ?_
    rw [HOK.out]
    rintro e w4 ⟨rfl, hb4⟩
    clear p_c0 p_c1 p_c2 x_c0 x_c1 x_c2 p_l x_l
    have HC4 := Lib.hid (HA3.out.trans (hb4.mono HA3.out.size))
    have HW4 := Lib.hid (HW3.out.trans (HC4.out.mono HW3.out.size))
    have P_4 := Lib.hid (P_3.out.below HC4.out P_3.out.lt)
    have X_4 := Lib.hid (X_3.out.below HC4.out X_3.out.lt)
    have Y_4 := Lib.hid ((Box.new w3 #[.string t', .int .i64 r', .int .i64 k'] 24).below hb4 (by simp only [World.size_alloc]; omega))
    clear hb4
    have HA4 := Lib.hid (show Below w4.heap.size w4 w4 from (Below.refl _ _))
    have p_c0 := P_4.out.cell 0
    have p_c1 := P_4.out.cell 1
    have p_c2 := P_4.out.cell 2
    have x_c0 := X_4.out.cell 0
    have x_c1 := X_4.out.cell 1
    have x_c2 := X_4.out.cell 2
    have y_c0 := Y_4.out.cell 0
    have y_c1 := Y_4.out.cell 1
    have y_c2 := Y_4.out.cell 2
    simp at p_c0 p_c1 p_c2 x_c0 x_c1 x_c2 y_c0 y_c1 y_c2
    have p_l := P_4.out.lt
    have x_l := X_4.out.lt
    have y_l := Y_4.out.lt
    go_wp2_with fail
    go_ret
    exact ⟨rfl, HW4.out.trans (HA4.out.mono HW4.out.size)⟩
  obtain ⟨rfl, rfl⟩ := a3.resolve_left h0
  have h1 : ¬ t.toList = [] := by
    intro e
    apply h0
    apply ByteArray.ext
    apply Array.ext'
    rw [ByteArray.toList_eq] at e
    rw [e]
  clear a3 h0
  have HA1 := Lib.hid (show Below w1.heap.size w1 (w1.alloc (.cells #[.string t, .int .i64 r, .int .i64 k] 24)) from ((Below.refl _ _).alloc (Nat.le_refl _) _))
  go_wp2_with fail
  refine (HM.out t r k b HT.out).mono ?_
  rw [HRE.out]
  rintro e w2 ⟨rfl, hb2⟩
  have HC2 := Lib.hid (HA1.out.trans (hb2.mono HA1.out.size))
  have HW2 := Lib.hid (HW1.out.trans (HC2.out.mono HW1.out.size))
  have P_2 := Lib.hid ((Box.new w1 #[.string t, .int .i64 r, .int .i64 k] 24).below hb2 (by simp only [World.size_alloc]; omega))
  clear hb2
  have HA2 := Lib.hid (show Below w2.heap.size w2 (w2.alloc (.cells #[.string ⟨#[]⟩, .int .i64 0, .int .i64 k'] 24)) from ((Below.refl _ _).alloc (Nat.le_refl _) _))
  have p_c0 := P_2.out.cell 0
  have p_c1 := P_2.out.cell 1
  have p_c2 := P_2.out.cell 2
  simp at p_c0 p_c1 p_c2
  have p_l := P_2.out.lt
  go_wp2_with fail
  refine (pipeLeave_any t r k b HT.out).mono ?_
  rw [HRE.out]
  rintro e w3 ⟨rfl, hb3⟩
  clear p_c0 p_c1 p_c2 p_l
  have HC3 := Lib.hid (HA2.out.trans (hb3.mono HA2.out.size))
  have HW3 := Lib.hid (HW2.out.trans (HC3.out.mono HW2.out.size))
  have P_3 := Lib.hid (P_2.out.below HC3.out P_2.out.lt)
  have X_3 := Lib.hid ((Box.new w2 #[.string ⟨#[]⟩, .int .i64 0, .int .i64 k'] 24).below hb3 (by simp only [World.size_alloc]; omega))
  clear hb3
  have HA3 := Lib.hid (show Below w3.heap.size w3 (w3.alloc (.cells #[.string ⟨#[]⟩, .int .i64 0, .int .i64 k'] 24)) from ((Below.refl _ _).alloc (Nat.le_refl _) _))
  have p_c0 := P_3.out.cell 0
  have p_c1 := P_3.out.cell 1
  have p_c2 := P_3.out.cell 2
  have x_c0 := X_3.out.cell 0
  have x_c1 := X_3.out.cell 1
  have x_c2 := X_3.out.cell 2
  simp at p_c0 p_c1 p_c2 x_c0 x_c1 x_c2
  have p_l := P_3.out.lt
  have x_l := X_3.out.lt
  go_wp2_with fail
  refine (HO.out ⟨#[]⟩ 0 k' HS.out).mono ?_
  rw [HOK.out]
  rintro e w4 ⟨rfl, hb4⟩
  clear p_c0 p_c1 p_c2 x_c0 x_c1 x_c2 p_l x_l
  have HC4 := Lib.hid (HA3.out.trans (hb4.mono HA3.out.size))
  have HW4 := Lib.hid (HW3.out.trans (HC4.out.mono HW3.out.size))
  have P_4 := Lib.hid (P_3.out.below HC4.out P_3.out.lt)
  have X_4 := Lib.hid (X_3.out.below HC4.out X_3.out.lt)
  have Y_4 := Lib.hid ((Box.new w3 #[.string ⟨#[]⟩, .int .i64 0, .int .i64 k'] 24).below hb4 (by simp only [World.size_alloc]; omega))
  clear hb4
  have HA4 := Lib.hid (show Below w4.heap.size w4 w4 from (Below.refl _ _))
  have p_c0 := P_4.out.cell 0
  have p_c1 := P_4.out.cell 1
  have p_c2 := P_4.out.cell 2
  have x_c0 := X_4.out.cell 0
  have x_c1 := X_4.out.cell 1
  have x_c2 := X_4.out.cell 2
  have y_c0 := Y_4.out.cell 0
  have y_c1 := Y_4.out.cell 1
  have y_c2 := Y_4.out.cell 2
  simp at p_c0 p_c1 p_c2 x_c0 x_c1 x_c2 y_c0 y_c1 y_c2
  have p_l := P_4.out.lt
  have x_l := X_4.out.lt
  have y_l := Y_4.out.lt
  go_wp2_with fail
  go_ret
  exact ⟨rfl, HW4.out.trans (HA4.out.mono HW4.out.size)⟩
end
end Go.Proofs.Ytjjkkfemhfhciaa
