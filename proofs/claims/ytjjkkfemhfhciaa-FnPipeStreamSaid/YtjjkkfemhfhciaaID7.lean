/-
  The walk of FnPipeDrain.
-/
import Derived.Test.YtjjkkfemhfhciaaID3
namespace Go.Proofs.Ytjjkkfemhfhciaa
open Go.RowKit

section
variable {A : Option Addr} {n c : Nat} {w : World}
theorem ext_app (t : ByteArray) (n : Nat) (h : n ≤ t.size) : t.extract 0 n ++ t.extract n t.size = t := by
  apply ByteArray.ext
  rw [ByteArray.data_append]
  apply Array.ext'
  have hn : n ≤ t.data.size := h
  simp [ByteArray.data_extract]
  apply List.take_of_length_le
  have e : t.data.toList.length = t.size := rfl
  omega
theorem pi_pos {t : ByteArray} {r k : Int} (hr : ¬ r = 0) (hp : piB t r k = true) : 0 < r := by have := (pi_in hp).1; omega
theorem pi_less {t : ByteArray} {r k : Int} (hr : ¬ r = 0) (hk : 0 < k) (hp : piB t r k = true) : piB t r (k - 1) = true ∧ leaR t r k false = ((t, r, k - 1), true) := by
  have h1 := pi_in hp
  constructor
  · unfold piB at hp ⊢
    simp only [Bool.and_eq_true] at hp ⊢
    exact ⟨hp.1, hp.2.1, inB_of (by omega), hp.2.2.2⟩
  · unfold leaR
    rw [hp]
    simp only [Bool.false_eq_true, if_false]
    rw [decide_eq_false (by omega), if_pos (by rfl), if_neg hr]
theorem tak_some {t : ByteArray} {r k m : Int} (hr : ¬ r = 0) (hm : 1 ≤ m) (hs : ¬ t.size = 0) (hp : piB t r k = true) : ∃ n : Nat, 1 ≤ n ∧ n ≤ t.size ∧ piB (t.extract n t.size) r k = true ∧ takR t r k m = ((t.extract n t.size, r, k), t.extract 0 n, 0) := by
  refine ⟨min m.toNat t.size, by omega, by omega, pi_cut hp _, ?_⟩
  unfold takR takI
  rw [hp, decide_eq_false hr, decide_eq_true (show 0 ≤ m by omega), if_pos (by rfl), if_neg (by omega), if_neg hs]
theorem tak_none {t : ByteArray} {r m : Int} (hr : ¬ r = 0) (hm : 1 ≤ m) (hs : t.size = 0) (hp : piB t r 0 = true) : takR t r 0 m = ((t, r, 0), ⟨#[]⟩, 3) := by
  unfold takR takI
  rw [hp, decide_eq_false hr, decide_eq_true (show 0 ≤ m by omega), if_pos (by rfl), if_neg (by omega), if_pos hs, if_pos rfl]
theorem Box.set3 {w : World} {X : Nat} {a b c : Value} {T : TypeId} (h : Box w X #[a, b, c] T) (a' b' c' : Value) (o : Obj) : Box ((((w.setCell ⟨X, 0, none⟩ a').setCell ⟨X, 1, none⟩ b').setCell ⟨X, 2, none⟩ c').alloc o) X #[a', b', c'] T := by
  simpa using (((h.set 0 a').set 1 b').set 2 c').alloc o
def kOf (X : Nat) (wr : World) : Nat := match wr.cell? ⟨X, 2, none⟩ with
  | some v => (intOf v).toNat
  | none => 0
theorem kOf_box {X : Nat} {wr : World} {a b : Value} {k : Int} {T : TypeId} (h : Box wr X #[a, b, .int .i64 k] T) : kOf X wr = k.toNat := by
  unfold kOf
  rw [h.cell]
  rfl
set_option maxHeartbeats 2000000 in
set_option maxRecDepth 100000 in
theorem dPipeDrain_walk (hm : ITak 27) (ho : IOk 19) (hl : ILea 22) (hc : Code w A n) (hcap : n ≤ c) (hcap2 : c ≤ maxLen) : Calls Try.prog 10 #[.slice A n c] w fun e w' => e = .returned (.bool true) ∧ Below w.heap.size w w' := by
  have hn := hc.1
  unfold maxLen at hn
  by_cases hbig : (1048576 : Int) < n
  · go_enter Try.func10, Try.ntmps10
    go_wp2_with fail
    go_ret
    exact ⟨rfl, Below.refl _ _⟩
  have HCODE := Lib.hid hc
  clear hc
  have HM := Lib.hid hm
  clear hm
  have HO := Lib.hid ho
  clear ho
  have HL := Lib.hid hl
  clear hl
  have HW0 := Lib.hid (Below.refl w.heap.size w)
  go_enter Try.func10, Try.ntmps10
  have HA0 := Lib.hid (show Below w.heap.size w w from (Below.refl _ _))
  go_wp2_with fail
  refine (dDrawPipeTake_any HCODE.out hcap hcap2).mono ?_
  rintro e w1 ⟨t, r, k, m, rfl, ts, ⟨ra, rb⟩, ⟨ka, kb⟩, m0, m1, hb1⟩
  have HC1 := Lib.hid (HA0.out.trans (hb1.mono HA0.out.size))
  have HW1 := Lib.hid (HW0.out.trans (HC1.out.mono HW0.out.size))
  clear hb1
  have HT := Lib.hid (show t.size ≤ maxLen by unfold maxLen; omega)
  by_cases hp : piB t r k = true
  case neg =>
    have hp' : piB t r k = false := by simpa using hp
    have HPP := Lib.hid hp'
    clear hp hp'
    have HA1 := Lib.hid (show Below w1.heap.size w1 (w1.alloc (.cells #[.string t, .int .i64 r, .int .i64 k] 24)) from ((Below.refl _ _).alloc (Nat.le_refl _) _))
    go_wp2_with fail
    refine (HO.out t r k HT.out).mono ?_
    rw [HPP.out]
    rintro e w2 ⟨rfl, hb2⟩
    have HC2 := Lib.hid (HA1.out.trans (hb2.mono HA1.out.size))
    have HW2 := Lib.hid (HW1.out.trans (HC2.out.mono HW1.out.size))
    have P_2 := Lib.hid ((Box.new w1 #[.string t, .int .i64 r, .int .i64 k] 24).below hb2 (by simp only [World.size_alloc]; omega))
    clear hb2
    have HA2 := Lib.hid (show Below w2.heap.size w2 w2 from (Below.refl _ _))
    have p_c0 := P_2.out.cell 0
    have p_c1 := P_2.out.cell 1
    have p_c2 := P_2.out.cell 2
    simp at p_c0 p_c1 p_c2
    have p_l := P_2.out.lt
    go_wp2_with fail
    refine (pipeOk_any t r k HT.out).mono ?_
    rw [HPP.out]
    rintro e w3 ⟨rfl, hb3⟩
    clear p_c0 p_c1 p_c2 p_l
    have HC3 := Lib.hid (HA2.out.trans (hb3.mono HA2.out.size))
    have HW3 := Lib.hid (HW2.out.trans (HC3.out.mono HW2.out.size))
    have P_3 := Lib.hid (P_2.out.below HC3.out P_2.out.lt)
    clear hb3
    have HA3 := Lib.hid (show Below w3.heap.size w3 w3 from (Below.refl _ _))
    have p_c0 := P_3.out.cell 0
    have p_c1 := P_3.out.cell 1
    have p_c2 := P_3.out.cell 2
    simp at p_c0 p_c1 p_c2
    have p_l := P_3.out.lt
    go_wp2_with fail
    refine (pipeOk_any t r k HT.out).mono ?_
    rw [HPP.out]
    rintro e w4 ⟨rfl, hb4⟩
    clear p_c0 p_c1 p_c2 p_l
    have HC4 := Lib.hid (HA3.out.trans (hb4.mono HA3.out.size))
    have HW4 := Lib.hid (HW3.out.trans (HC4.out.mono HW3.out.size))
    have P_4 := Lib.hid (P_3.out.below HC4.out P_3.out.lt)
    clear hb4
    have HA4 := Lib.hid (show Below w4.heap.size w4 w4 from (Below.refl _ _))
    have p_c0 := P_4.out.cell 0
    have p_c1 := P_4.out.cell 1
    have p_c2 := P_4.out.cell 2
    simp at p_c0 p_c1 p_c2
    have p_l := P_4.out.lt
    go_wp2_with fail
    go_ret
    exact ⟨rfl, HW4.out.trans (HA4.out.mono HW4.out.size)⟩
  have HPP := Lib.hid hp
  by_cases h0 : r = 0
  case pos =>
    have e0 : (r == 0) = true := by rw [beq_iff_eq]; exact h0
    clear h0 hp
    have HA1 := Lib.hid (show Below w1.heap.size w1 (w1.alloc (.cells #[.string t, .int .i64 r, .int .i64 k] 24)) from ((Below.refl _ _).alloc (Nat.le_refl _) _))
    go_wp2_with fail
    refine (HO.out t r k HT.out).mono ?_
    rw [HPP.out]
    rintro e w2 ⟨rfl, hb2⟩
    have HC2 := Lib.hid (HA1.out.trans (hb2.mono HA1.out.size))
    have HW2 := Lib.hid (HW1.out.trans (HC2.out.mono HW1.out.size))
    have P_2 := Lib.hid ((Box.new w1 #[.string t, .int .i64 r, .int .i64 k] 24).below hb2 (by simp only [World.size_alloc]; omega))
    clear hb2
    have HA2 := Lib.hid (show Below w2.heap.size w2 w2 from (Below.refl _ _))
    have p_c0 := P_2.out.cell 0
    have p_c1 := P_2.out.cell 1
    have p_c2 := P_2.out.cell 2
    simp at p_c0 p_c1 p_c2
    have p_l := P_2.out.lt
    go_wp2_with fail
    refine (pipeOk_any t r k HT.out).mono ?_
    rw [HPP.out]
    rintro e w3 ⟨rfl, hb3⟩
    clear p_c0 p_c1 p_c2 p_l
    have HC3 := Lib.hid (HA2.out.trans (hb3.mono HA2.out.size))
    have HW3 := Lib.hid (HW2.out.trans (HC3.out.mono HW2.out.size))
    have P_3 := Lib.hid (P_2.out.below HC3.out P_2.out.lt)
    clear hb3
    have HA3 := Lib.hid (show Below w3.heap.size w3 w3 from (Below.refl _ _))
    have p_c0 := P_3.out.cell 0
    have p_c1 := P_3.out.cell 1
    have p_c2 := P_3.out.cell 2
    simp at p_c0 p_c1 p_c2
    have p_l := P_3.out.lt
    go_wp2_with fail
    refine (pipeOk_any t r k HT.out).mono ?_
    rw [HPP.out]
    rintro e w4 ⟨rfl, hb4⟩
    clear p_c0 p_c1 p_c2 p_l
    have HC4 := Lib.hid (HA3.out.trans (hb4.mono HA3.out.size))
    have HW4 := Lib.hid (HW3.out.trans (HC4.out.mono HW3.out.size))
    have P_4 := Lib.hid (P_3.out.below HC4.out P_3.out.lt)
    clear hb4
    have HA4 := Lib.hid (show Below w4.heap.size w4 w4 from (Below.refl _ _))
    have p_c0 := P_4.out.cell 0
    have p_c1 := P_4.out.cell 1
    have p_c2 := P_4.out.cell 2
    simp at p_c0 p_c1 p_c2
    have p_l := P_4.out.lt
    go_wp2_with fail
    go_ret
    exact ⟨rfl, HW4.out.trans (HA4.out.mono HW4.out.size)⟩
  have e0 : (r == 0) = false := by rw [beq_eq_false_iff_ne]; exact h0
  have H0 := Lib.hid h0
  have H8 := Lib.hid (pi_size hp)
  obtain ⟨_, hk0, _⟩ := pi_in hp
  clear h0 hp
  have HA1 := Lib.hid (show Below w1.heap.size w1 (w1.alloc (.cells #[.string t, .int .i64 r, .int .i64 k] 24)) from ((Below.refl _ _).alloc (Nat.le_refl _) _))
  go_wp2_with fail
  refine (HO.out t r k HT.out).mono ?_
  rw [HPP.out]
  rintro e w2 ⟨rfl, hb2⟩
  have HC2 := Lib.hid (HA1.out.trans (hb2.mono HA1.out.size))
  have HW2 := Lib.hid (HW1.out.trans (HC2.out.mono HW1.out.size))
  have P_2 := Lib.hid ((Box.new w1 #[.string t, .int .i64 r, .int .i64 k] 24).below hb2 (by simp only [World.size_alloc]; omega))
  clear hb2
  have HA2 := Lib.hid (show Below w2.heap.size w2 w2 from (Below.refl _ _))
  have p_c0 := P_2.out.cell 0
  have p_c1 := P_2.out.cell 1
  have p_c2 := P_2.out.cell 2
  simp at p_c0 p_c1 p_c2
  have p_l := P_2.out.lt
  go_wp2_with fail
  refine (pipeOk_any t r k HT.out).mono ?_
  rw [HPP.out]
  rintro e w3 ⟨rfl, hb3⟩
  clear p_c0 p_c1 p_c2 p_l
  have HC3 := Lib.hid (HA2.out.trans (hb3.mono HA2.out.size))
  have HW3 := Lib.hid (HW2.out.trans (HC3.out.mono HW2.out.size))
  have P_3 := Lib.hid (P_2.out.below HC3.out P_2.out.lt)
  clear hb3
  have p_c0 := P_3.out.cell 0
  have p_c1 := P_3.out.cell 1
  have p_c2 := P_3.out.cell 2
  simp at p_c0 p_c1 p_c2
  have p_l := P_3.out.lt
  go_wp2_with fail
  clear p_c0 p_c1 p_c2 p_l
  have hXw : w.heap.size ≤ w1.heap.size := HW1.out.size
  have PX := Lib.hid P_3.out
  generalize hX : w1.heap.size = X at PX hXw
  have HXE := Lib.hid hX
  clear hX
  obtain ⟨K0, rfl⟩ : ∃ K0 : Nat, k = K0 := ⟨k.toNat, by omega⟩
  go_loopw [] (fun wr => ∃ k' : Int, 0 ≤ k' ∧ piB t r k' = true ∧ Box wr X #[.string t, .int .i64 r, .int .i64 k'] 24 ∧ Below w.heap.size w wr) (fun wr => kOf X wr)
  case atStart => exact ⟨_, hk0, HPP.out, PX.out, HW3.out⟩
  case round =>
    obtain ⟨k', hk, hpk, hx, hb⟩ := hrel
    have HX := Lib.hid hx
    have HB := Lib.hid hb
    have HPK := Lib.hid hpk
    have HKO := Lib.hid (kOf_box hx)
    clear hx hb hpk
    have p0 := HX.out.cell 0
    have p1 := HX.out.cell 1
    have p2 := HX.out.cell 2
    have f0 := HX.out.frz 0
    have f1 := HX.out.frz 1
    have f2 := HX.out.frz 2
    have pl := HX.out.lt
    simp at p0 p1 p2
    by_cases hlt : 0 < k'
    · obtain ⟨q1, q2⟩ := pi_less H0.out hlt HPK.out
      have Q1 := Lib.hid q1
      have Q2 := Lib.hid q2
      clear q1 q2
      go_wp2_with fail
      refine (HL.out t r k' false HT.out).mono ?_
      rw [Q2.out]
      rintro e w5 ⟨rfl, hb5⟩
      have HX5 := Lib.hid (HX.out.below hb5 HX.out.lt)
      have HB5 := Lib.hid (HB.out.trans (hb5.mono HB.out.size))
      clear hb5 p0 p1 p2 f0 f1 f2 pl
      have p0 := HX5.out.cell 0
      have p1 := HX5.out.cell 1
      have p2 := HX5.out.cell 2
      have f0 := HX5.out.frz 0
      have f1 := HX5.out.frz 1
      have f2 := HX5.out.frz 2
      have pl := HX5.out.lt
      simp at p0 p1 p2
      have HX6 := Lib.hid (Box.set3 HX5.out (.string t) (.int .i64 r) (.int .i64 (k' - 1)) (.cells #[.string t, .int .i64 r, .int .i64 (k' - 1)] 24))
      go_wp2_with fail
      exact ⟨⟨k' - 1, by omega, Q1.out, HX6.out, (((HB5.out.setCell (by dsimp only; exact hXw) _).setCell (by dsimp only; exact hXw) _).setCell (by dsimp only; exact hXw) _).alloc (by simp only [World.size_setCell]; exact HB5.out.size) _⟩, by rw [kOf_box HX6.out, HKO.out]; omega⟩
    · obtain rfl : k' = 0 := by omega
      clear hlt hk HKO
      have HX3 := Lib.hid HX.out
      clear p0 p1 p2 f0 f1 f2 pl
      have p0 := HX3.out.cell 0
      have p1 := HX3.out.cell 1
      have p2 := HX3.out.cell 2
      have pf0 := HX3.out.frz 0
      have pf1 := HX3.out.frz 1
      have pf2 := HX3.out.frz 2
      have pl := HX3.out.lt
      simp at p0 p1 p2
      by_cases a1 : m < 1
      · go_wp2_with fail
        go_loopw [9, 10] (fun out i w2r => ∃ (q : Nat) (o pt : ByteArray), i = .int .i64 q ∧ out = .string o ∧ o ++ pt = t ∧ pt.size + q ≤ 8 ∧ piB pt r 0 = true ∧ Box w2r X #[.string pt, .int .i64 r, .int .i64 0] 24 ∧ Below w.heap.size w w2r) (fun _ i _ => 9 - (intOf i).toNat)
        case atStart => exact ⟨0, ⟨#[]⟩, t, rfl, rfl, by apply ByteArray.ext; rw [ByteArray.data_append]; simp, by have := H8.out; omega, HPK.out, HX.out, HB.out⟩
        case round =>
          obtain ⟨q, o, pt, rfl, rfl, hot, hsz, hpk, hx, hb⟩ := hrel
          have HX2 := Lib.hid hx
          have HB2 := Lib.hid hb
          have HPK2 := Lib.hid hpk
          have HOT := Lib.hid hot
          have HPS := Lib.hid (show pt.size ≤ maxLen by unfold maxLen; omega)
          have hos : o.size + pt.size ≤ 8 := by rw [← ByteArray.size_append, hot]; exact H8.out
          clear hx hb hpk hot
          have hq9 : (q : Int) < 9 := by omega
          have x0 := HX2.out.cell 0
          have x1 := HX2.out.cell 1
          have x2 := HX2.out.cell 2
          have xf0 := HX2.out.frz 0
          have xf1 := HX2.out.frz 1
          have xf2 := HX2.out.frz 2
          have xl := HX2.out.lt
          simp at x0 x1 x2
          by_cases hs : pt.size = 0
          · have HTN := Lib.hid (tak_none (m := 1) H0.out (by omega) hs HPK2.out)
            have hoe : o = t := by
              rw [← HOT.out, emp_of hs]
              apply ByteArray.ext
              rw [ByteArray.data_append]
              simp
            subst hoe
            clear hs
            go_wp2_with fail
            refine (HM.out pt r 0 1 HPS.out).mono ?_
            rw [HTN.out]
            rintro e w7 ⟨rfl, hb7⟩
            have HB7 := Lib.hid (HB2.out.trans (hb7.mono HB2.out.size))
            clear hb7
            go_wp2_with fail
            go_ret
            exact ⟨rfl, HB7.out.alloc HB7.out.size _⟩
          · obtain ⟨n7, n1, n2, n3, n4⟩ := tak_some (m := 1) H0.out (by omega) hs HPK2.out
            have HTS := Lib.hid n4
            have HPN := Lib.hid n3
            have q3 : (9223372036854775807 < o.size + min n7 pt.size) = False := eq_false (by omega)
            have q4 : (9223372036854775807 < o.size + n7) = False := eq_false (by omega)
            clear n3 n4 hs
            go_wp2_with fail
            refine (HM.out pt r 0 1 HPS.out).mono ?_
            rw [HTS.out]
            rintro e w7 ⟨rfl, hb7⟩
            have HX7 := Lib.hid (HX2.out.below hb7 HX2.out.lt)
            have HB7 := Lib.hid (HB2.out.trans (hb7.mono HB2.out.size))
            clear x0 x1 x2 xf0 xf1 xf2 xl hb7
            have x0 := HX7.out.cell 0
            have x1 := HX7.out.cell 1
            have x2 := HX7.out.cell 2
            have xf0 := HX7.out.frz 0
            have xf1 := HX7.out.frz 1
            have xf2 := HX7.out.frz 2
            have xl := HX7.out.lt
            simp at x0 x1 x2
            have HX8 := Lib.hid (Box.set3 HX7.out (.string (pt.extract n7 pt.size)) (.int .i64 r) (.int .i64 0) (.cells #[.string (pt.extract n7 pt.size), .int .i64 r, .int .i64 0] 24))
            go_wp2_with fail
            refine ⟨⟨q + 1, o ++ pt.extract 0 n7, pt.extract n7 pt.size, by go_num, rfl, ?_, ?_, HPN.out, HX8.out, (((HB7.out.setCell (by dsimp only; exact hXw) _).setCell (by dsimp only; exact hXw) _).setCell (by dsimp only; exact hXw) _).alloc (by simp only [World.size_setCell]; exact HB7.out.size) _⟩, by simp [intOf]; omega⟩
            · rw [ByteArray.append_assoc, ext_app pt n7 n2]
              exact HOT.out
            · rw [ByteArray.size_extract]
              omega
      by_cases a2 : m = 1
      · subst a2
        go_wp2_with fail
        go_loopw [9, 10] (fun out i w2r => ∃ (q : Nat) (o pt : ByteArray), i = .int .i64 q ∧ out = .string o ∧ o ++ pt = t ∧ pt.size + q ≤ 8 ∧ piB pt r 0 = true ∧ Box w2r X #[.string pt, .int .i64 r, .int .i64 0] 24 ∧ Below w.heap.size w w2r) (fun _ i _ => 9 - (intOf i).toNat)
        case atStart => exact ⟨0, ⟨#[]⟩, t, rfl, rfl, by apply ByteArray.ext; rw [ByteArray.data_append]; simp, by have := H8.out; omega, HPK.out, HX.out, HB.out⟩
        case round =>
          obtain ⟨q, o, pt, rfl, rfl, hot, hsz, hpk, hx, hb⟩ := hrel
          have HX2 := Lib.hid hx
          have HB2 := Lib.hid hb
          have HPK2 := Lib.hid hpk
          have HOT := Lib.hid hot
          have HPS := Lib.hid (show pt.size ≤ maxLen by unfold maxLen; omega)
          have hos : o.size + pt.size ≤ 8 := by rw [← ByteArray.size_append, hot]; exact H8.out
          clear hx hb hpk hot
          have hq9 : (q : Int) < 9 := by omega
          have x0 := HX2.out.cell 0
          have x1 := HX2.out.cell 1
          have x2 := HX2.out.cell 2
          have xf0 := HX2.out.frz 0
          have xf1 := HX2.out.frz 1
          have xf2 := HX2.out.frz 2
          have xl := HX2.out.lt
          simp at x0 x1 x2
          by_cases hs : pt.size = 0
          · have HTN := Lib.hid (tak_none (m := 1) H0.out (by omega) hs HPK2.out)
            have hoe : o = t := by
              rw [← HOT.out, emp_of hs]
              apply ByteArray.ext
              rw [ByteArray.data_append]
              simp
            subst hoe
            clear hs
            go_wp2_with fail
            refine (HM.out pt r 0 1 HPS.out).mono ?_
            rw [HTN.out]
            rintro e w7 ⟨rfl, hb7⟩
            have HB7 := Lib.hid (HB2.out.trans (hb7.mono HB2.out.size))
            clear hb7
            go_wp2_with fail
            go_ret
            exact ⟨rfl, HB7.out.alloc HB7.out.size _⟩
          · obtain ⟨n7, n1, n2, n3, n4⟩ := tak_some (m := 1) H0.out (by omega) hs HPK2.out
            have HTS := Lib.hid n4
            have HPN := Lib.hid n3
            have q3 : (9223372036854775807 < o.size + min n7 pt.size) = False := eq_false (by omega)
            have q4 : (9223372036854775807 < o.size + n7) = False := eq_false (by omega)
            clear n3 n4 hs
            go_wp2_with fail
            refine (HM.out pt r 0 1 HPS.out).mono ?_
            rw [HTS.out]
            rintro e w7 ⟨rfl, hb7⟩
            have HX7 := Lib.hid (HX2.out.below hb7 HX2.out.lt)
            have HB7 := Lib.hid (HB2.out.trans (hb7.mono HB2.out.size))
            clear x0 x1 x2 xf0 xf1 xf2 xl hb7
            have x0 := HX7.out.cell 0
            have x1 := HX7.out.cell 1
            have x2 := HX7.out.cell 2
            have xf0 := HX7.out.frz 0
            have xf1 := HX7.out.frz 1
            have xf2 := HX7.out.frz 2
            have xl := HX7.out.lt
            simp at x0 x1 x2
            have HX8 := Lib.hid (Box.set3 HX7.out (.string (pt.extract n7 pt.size)) (.int .i64 r) (.int .i64 0) (.cells #[.string (pt.extract n7 pt.size), .int .i64 r, .int .i64 0] 24))
            go_wp2_with fail
            refine ⟨⟨q + 1, o ++ pt.extract 0 n7, pt.extract n7 pt.size, by go_num, rfl, ?_, ?_, HPN.out, HX8.out, (((HB7.out.setCell (by dsimp only; exact hXw) _).setCell (by dsimp only; exact hXw) _).setCell (by dsimp only; exact hXw) _).alloc (by simp only [World.size_setCell]; exact HB7.out.size) _⟩, by simp [intOf]; omega⟩
            · rw [ByteArray.append_assoc, ext_app pt n7 n2]
              exact HOT.out
            · rw [ByteArray.size_extract]
              omega
      by_cases a3 : m = 5
      · subst a3
        go_wp2_with fail
        go_loopw [9, 10] (fun out i w2r => ∃ (q : Nat) (o pt : ByteArray), i = .int .i64 q ∧ out = .string o ∧ o ++ pt = t ∧ pt.size + q ≤ 8 ∧ piB pt r 0 = true ∧ Box w2r X #[.string pt, .int .i64 r, .int .i64 0] 24 ∧ Below w.heap.size w w2r) (fun _ i _ => 9 - (intOf i).toNat)
        case atStart => exact ⟨0, ⟨#[]⟩, t, rfl, rfl, by apply ByteArray.ext; rw [ByteArray.data_append]; simp, by have := H8.out; omega, HPK.out, HX.out, HB.out⟩
        case round =>
          obtain ⟨q, o, pt, rfl, rfl, hot, hsz, hpk, hx, hb⟩ := hrel
          have HX2 := Lib.hid hx
          have HB2 := Lib.hid hb
          have HPK2 := Lib.hid hpk
          have HOT := Lib.hid hot
          have HPS := Lib.hid (show pt.size ≤ maxLen by unfold maxLen; omega)
          have hos : o.size + pt.size ≤ 8 := by rw [← ByteArray.size_append, hot]; exact H8.out
          clear hx hb hpk hot
          have hq9 : (q : Int) < 9 := by omega
          have x0 := HX2.out.cell 0
          have x1 := HX2.out.cell 1
          have x2 := HX2.out.cell 2
          have xf0 := HX2.out.frz 0
          have xf1 := HX2.out.frz 1
          have xf2 := HX2.out.frz 2
          have xl := HX2.out.lt
          simp at x0 x1 x2
          by_cases hs : pt.size = 0
          · have HTN := Lib.hid (tak_none (m := 5) H0.out (by omega) hs HPK2.out)
            have hoe : o = t := by
              rw [← HOT.out, emp_of hs]
              apply ByteArray.ext
              rw [ByteArray.data_append]
              simp
            subst hoe
            clear hs
            go_wp2_with fail
            refine (HM.out pt r 0 5 HPS.out).mono ?_
            rw [HTN.out]
            rintro e w7 ⟨rfl, hb7⟩
            have HB7 := Lib.hid (HB2.out.trans (hb7.mono HB2.out.size))
            clear hb7
            go_wp2_with fail
            go_ret
            exact ⟨rfl, HB7.out.alloc HB7.out.size _⟩
          · obtain ⟨n7, n1, n2, n3, n4⟩ := tak_some (m := 5) H0.out (by omega) hs HPK2.out
            have HTS := Lib.hid n4
            have HPN := Lib.hid n3
            have q3 : (9223372036854775807 < o.size + min n7 pt.size) = False := eq_false (by omega)
            have q4 : (9223372036854775807 < o.size + n7) = False := eq_false (by omega)
            clear n3 n4 hs
            go_wp2_with fail
            refine (HM.out pt r 0 5 HPS.out).mono ?_
            rw [HTS.out]
            rintro e w7 ⟨rfl, hb7⟩
            have HX7 := Lib.hid (HX2.out.below hb7 HX2.out.lt)
            have HB7 := Lib.hid (HB2.out.trans (hb7.mono HB2.out.size))
            clear x0 x1 x2 xf0 xf1 xf2 xl hb7
            have x0 := HX7.out.cell 0
            have x1 := HX7.out.cell 1
            have x2 := HX7.out.cell 2
            have xf0 := HX7.out.frz 0
            have xf1 := HX7.out.frz 1
            have xf2 := HX7.out.frz 2
            have xl := HX7.out.lt
            simp at x0 x1 x2
            have HX8 := Lib.hid (Box.set3 HX7.out (.string (pt.extract n7 pt.size)) (.int .i64 r) (.int .i64 0) (.cells #[.string (pt.extract n7 pt.size), .int .i64 r, .int .i64 0] 24))
            go_wp2_with fail
            refine ⟨⟨q + 1, o ++ pt.extract 0 n7, pt.extract n7 pt.size, by go_num, rfl, ?_, ?_, HPN.out, HX8.out, (((HB7.out.setCell (by dsimp only; exact hXw) _).setCell (by dsimp only; exact hXw) _).setCell (by dsimp only; exact hXw) _).alloc (by simp only [World.size_setCell]; exact HB7.out.size) _⟩, by simp [intOf]; omega⟩
            · rw [ByteArray.append_assoc, ext_app pt n7 n2]
              exact HOT.out
            · rw [ByteArray.size_extract]
              omega
      by_cases a4 : m < 5
      · have a5 : 1 < m := by omega
        clear a1 a2 a3
        go_wp2_with fail
        go_loopw [9, 10] (fun out i w2r => ∃ (q : Nat) (o pt : ByteArray), i = .int .i64 q ∧ out = .string o ∧ o ++ pt = t ∧ pt.size + q ≤ 8 ∧ piB pt r 0 = true ∧ Box w2r X #[.string pt, .int .i64 r, .int .i64 0] 24 ∧ Below w.heap.size w w2r) (fun _ i _ => 9 - (intOf i).toNat)
        case atStart => exact ⟨0, ⟨#[]⟩, t, rfl, rfl, by apply ByteArray.ext; rw [ByteArray.data_append]; simp, by have := H8.out; omega, HPK.out, HX.out, HB.out⟩
        case round =>
          obtain ⟨q, o, pt, rfl, rfl, hot, hsz, hpk, hx, hb⟩ := hrel
          have HX2 := Lib.hid hx
          have HB2 := Lib.hid hb
          have HPK2 := Lib.hid hpk
          have HOT := Lib.hid hot
          have HPS := Lib.hid (show pt.size ≤ maxLen by unfold maxLen; omega)
          have hos : o.size + pt.size ≤ 8 := by rw [← ByteArray.size_append, hot]; exact H8.out
          clear hx hb hpk hot
          have hq9 : (q : Int) < 9 := by omega
          have x0 := HX2.out.cell 0
          have x1 := HX2.out.cell 1
          have x2 := HX2.out.cell 2
          have xf0 := HX2.out.frz 0
          have xf1 := HX2.out.frz 1
          have xf2 := HX2.out.frz 2
          have xl := HX2.out.lt
          simp at x0 x1 x2
          by_cases hs : pt.size = 0
          · have HTN := Lib.hid (tak_none (m := m) H0.out (by omega) hs HPK2.out)
            have hoe : o = t := by
              rw [← HOT.out, emp_of hs]
              apply ByteArray.ext
              rw [ByteArray.data_append]
              simp
            subst hoe
            clear hs
            go_wp2_with fail
            refine (HM.out pt r 0 m HPS.out).mono ?_
            rw [HTN.out]
            rintro e w7 ⟨rfl, hb7⟩
            have HB7 := Lib.hid (HB2.out.trans (hb7.mono HB2.out.size))
            clear hb7
            go_wp2_with fail
            go_ret
            exact ⟨rfl, HB7.out.alloc HB7.out.size _⟩
          · obtain ⟨n7, n1, n2, n3, n4⟩ := tak_some (m := m) H0.out (by omega) hs HPK2.out
            have HTS := Lib.hid n4
            have HPN := Lib.hid n3
            have q3 : (9223372036854775807 < o.size + min n7 pt.size) = False := eq_false (by omega)
            have q4 : (9223372036854775807 < o.size + n7) = False := eq_false (by omega)
            clear n3 n4 hs
            go_wp2_with fail
            refine (HM.out pt r 0 m HPS.out).mono ?_
            rw [HTS.out]
            rintro e w7 ⟨rfl, hb7⟩
            have HX7 := Lib.hid (HX2.out.below hb7 HX2.out.lt)
            have HB7 := Lib.hid (HB2.out.trans (hb7.mono HB2.out.size))
            clear x0 x1 x2 xf0 xf1 xf2 xl hb7
            have x0 := HX7.out.cell 0
            have x1 := HX7.out.cell 1
            have x2 := HX7.out.cell 2
            have xf0 := HX7.out.frz 0
            have xf1 := HX7.out.frz 1
            have xf2 := HX7.out.frz 2
            have xl := HX7.out.lt
            simp at x0 x1 x2
            have HX8 := Lib.hid (Box.set3 HX7.out (.string (pt.extract n7 pt.size)) (.int .i64 r) (.int .i64 0) (.cells #[.string (pt.extract n7 pt.size), .int .i64 r, .int .i64 0] 24))
            go_wp2_with fail
            refine ⟨⟨q + 1, o ++ pt.extract 0 n7, pt.extract n7 pt.size, by go_num, rfl, ?_, ?_, HPN.out, HX8.out, (((HB7.out.setCell (by dsimp only; exact hXw) _).setCell (by dsimp only; exact hXw) _).setCell (by dsimp only; exact hXw) _).alloc (by simp only [World.size_setCell]; exact HB7.out.size) _⟩, by simp [intOf]; omega⟩
            · rw [ByteArray.append_assoc, ext_app pt n7 n2]
              exact HOT.out
            · rw [ByteArray.size_extract]
              omega
      have a5 : 5 < m := by omega
      clear a1 a2 a3 a4
      go_wp2_with fail
      go_loopw [9, 10] (fun out i w2r => ∃ (q : Nat) (o pt : ByteArray), i = .int .i64 q ∧ out = .string o ∧ o ++ pt = t ∧ pt.size + q ≤ 8 ∧ piB pt r 0 = true ∧ Box w2r X #[.string pt, .int .i64 r, .int .i64 0] 24 ∧ Below w.heap.size w w2r) (fun _ i _ => 9 - (intOf i).toNat)
      case atStart => exact ⟨0, ⟨#[]⟩, t, rfl, rfl, by apply ByteArray.ext; rw [ByteArray.data_append]; simp, by have := H8.out; omega, HPK.out, HX.out, HB.out⟩
      case round =>
        obtain ⟨q, o, pt, rfl, rfl, hot, hsz, hpk, hx, hb⟩ := hrel
        have HX2 := Lib.hid hx
        have HB2 := Lib.hid hb
        have HPK2 := Lib.hid hpk
        have HOT := Lib.hid hot
        have HPS := Lib.hid (show pt.size ≤ maxLen by unfold maxLen; omega)
        have hos : o.size + pt.size ≤ 8 := by rw [← ByteArray.size_append, hot]; exact H8.out
        clear hx hb hpk hot
        have hq9 : (q : Int) < 9 := by omega
        have x0 := HX2.out.cell 0
        have x1 := HX2.out.cell 1
        have x2 := HX2.out.cell 2
        have xf0 := HX2.out.frz 0
        have xf1 := HX2.out.frz 1
        have xf2 := HX2.out.frz 2
        have xl := HX2.out.lt
        simp at x0 x1 x2
        by_cases hs : pt.size = 0
        · have HTN := Lib.hid (tak_none (m := 5) H0.out (by omega) hs HPK2.out)
          have hoe : o = t := by
            rw [← HOT.out, emp_of hs]
            apply ByteArray.ext
            rw [ByteArray.data_append]
            simp
          subst hoe
          clear hs
          go_wp2_with fail
          refine (HM.out pt r 0 5 HPS.out).mono ?_
          rw [HTN.out]
          rintro e w7 ⟨rfl, hb7⟩
          have HB7 := Lib.hid (HB2.out.trans (hb7.mono HB2.out.size))
          clear hb7
          go_wp2_with fail
          go_ret
          exact ⟨rfl, HB7.out.alloc HB7.out.size _⟩
        · obtain ⟨n7, n1, n2, n3, n4⟩ := tak_some (m := 5) H0.out (by omega) hs HPK2.out
          have HTS := Lib.hid n4
          have HPN := Lib.hid n3
          have q3 : (9223372036854775807 < o.size + min n7 pt.size) = False := eq_false (by omega)
          have q4 : (9223372036854775807 < o.size + n7) = False := eq_false (by omega)
          clear n3 n4 hs
          go_wp2_with fail
          refine (HM.out pt r 0 5 HPS.out).mono ?_
          rw [HTS.out]
          rintro e w7 ⟨rfl, hb7⟩
          have HX7 := Lib.hid (HX2.out.below hb7 HX2.out.lt)
          have HB7 := Lib.hid (HB2.out.trans (hb7.mono HB2.out.size))
          clear x0 x1 x2 xf0 xf1 xf2 xl hb7
          have x0 := HX7.out.cell 0
          have x1 := HX7.out.cell 1
          have x2 := HX7.out.cell 2
          have xf0 := HX7.out.frz 0
          have xf1 := HX7.out.frz 1
          have xf2 := HX7.out.frz 2
          have xl := HX7.out.lt
          simp at x0 x1 x2
          have HX8 := Lib.hid (Box.set3 HX7.out (.string (pt.extract n7 pt.size)) (.int .i64 r) (.int .i64 0) (.cells #[.string (pt.extract n7 pt.size), .int .i64 r, .int .i64 0] 24))
          go_wp2_with fail
          refine ⟨⟨q + 1, o ++ pt.extract 0 n7, pt.extract n7 pt.size, by go_num, rfl, ?_, ?_, HPN.out, HX8.out, (((HB7.out.setCell (by dsimp only; exact hXw) _).setCell (by dsimp only; exact hXw) _).setCell (by dsimp only; exact hXw) _).alloc (by simp only [World.size_setCell]; exact HB7.out.size) _⟩, by simp [intOf]; omega⟩
          · rw [ByteArray.append_assoc, ext_app pt n7 n2]
            exact HOT.out
          · rw [ByteArray.size_extract]
            omega
end
end Go.Proofs.Ytjjkkfemhfhciaa
