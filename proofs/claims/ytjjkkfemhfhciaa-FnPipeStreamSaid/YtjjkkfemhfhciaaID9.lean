/-
  The walk of FnPipeStream.
-/
import Derived.Test.YtjjkkfemhfhciaaID2
import Derived.Test.YtjjkkfemhfhciaaID7
import Derived.Test.YtjjkkfemhfhciaaID8
namespace Go.Proofs.Ytjjkkfemhfhciaa
open Go.RowKit

section
variable {A : Option Addr} {n c : Nat} {w : World}
set_option maxHeartbeats 2000000 in
set_option maxRecDepth 100000 in
theorem dPipeStream_walk (hm : ITak 27) (ho : IOk 19) (hu : IPut 24) {A2 : Option Addr} {n2 c2 : Nat} (hc : Code w A n) (hcap : n ≤ c) (hcap2 : c ≤ maxLen) (hd : Code w A2 n2) (_hdcap : n2 ≤ c2) (hdcap2 : c2 ≤ maxLen) : Calls Try.prog 9 #[.slice A n c, .slice A2 n2 c2] w fun e w' => e = .returned (.bool true) ∧ Below w.heap.size w w' := by
  have hn := hc.1
  unfold maxLen at hn
  have hn2 := hd.1
  unfold maxLen at hn2
  have HCODE := Lib.hid hc
  have HMORE := Lib.hid hd
  have HCAP2 := Lib.hid hdcap2
  clear hc hd
  unfold maxLen at hdcap2
  by_cases hbig : (1048576 : Int) < n
  · go_enter Try.func9, Try.ntmps9
    go_wp2_with fail
    go_ret
    exact ⟨rfl, Below.refl _ _⟩
  by_cases hbig2 : (1048576 : Int) < n2
  · go_enter Try.func9, Try.ntmps9
    go_wp2_with fail
    go_ret
    exact ⟨rfl, Below.refl _ _⟩
  have HM := Lib.hid hm
  clear hm
  have HO := Lib.hid ho
  clear ho
  have HU := Lib.hid hu
  clear hu
  have HW0 := Lib.hid (Below.refl w.heap.size w)
  go_enter Try.func9, Try.ntmps9
  have HA0 := Lib.hid (show Below w.heap.size w w from (Below.refl _ _))
  go_wp2_with fail
  refine (dDrawPipePut_any HCODE.out hcap hcap2).mono ?_
  rintro e w1 ⟨t, r, k, x, rfl, ts, ⟨ra, rb⟩, ⟨ka, kb⟩, xs, hb1⟩
  have HC1 := Lib.hid (HA0.out.trans (hb1.mono HA0.out.size))
  have HW1 := Lib.hid (HW0.out.trans (HC1.out.mono HW0.out.size))
  clear hb1
  have HT := Lib.hid (show t.size ≤ maxLen by unfold maxLen; omega)
  have HX := Lib.hid (show x.size ≤ maxLen by unfold maxLen; omega)
  by_cases hp : piB t r k = true
  case neg =>
    have hp' : piB t r k = false := by simpa using hp
    have HPP := Lib.hid hp'
    clear hp hp'
    have HA1 := Lib.hid (show Below w1.heap.size w1 (w1.alloc (.cells #[.string t, .int .i64 r, .int .i64 k] 24)) from ((Below.refl _ _).alloc (Nat.le_refl _) _))
    go_wp2_with fail
    refine (HO.out t r k HT.out).mono ?_
    rw [HPP.out]
    rintro e w2 ⟨rfl, hb2⟩
    have HC2 := Lib.hid (HA1.out.trans (hb2.mono HA1.out.size))
    have HW2 := Lib.hid (HW1.out.trans (HC2.out.mono HW1.out.size))
    have P_2 := Lib.hid ((Box.new w1 #[.string t, .int .i64 r, .int .i64 k] 24).below hb2 (by simp only [World.size_alloc]; omega))
    clear hb2
    have HA2 := Lib.hid (show Below w2.heap.size w2 w2 from (Below.refl _ _))
    have p_c0 := P_2.out.cell 0
    have p_c1 := P_2.out.cell 1
    have p_c2 := P_2.out.cell 2
    simp at p_c0 p_c1 p_c2
    have p_l := P_2.out.lt
    go_wp2_with fail
    refine (pipeOk_any t r k HT.out).mono ?_
    rw [HPP.out]
    rintro e w3 ⟨rfl, hb3⟩
    clear p_c0 p_c1 p_c2 p_l
    have HC3 := Lib.hid (HA2.out.trans (hb3.mono HA2.out.size))
    have HW3 := Lib.hid (HW2.out.trans (HC3.out.mono HW2.out.size))
    have P_3 := Lib.hid (P_2.out.below HC3.out P_2.out.lt)
    clear hb3
    have HA3 := Lib.hid (show Below w3.heap.size w3 w3 from (Below.refl _ _))
    have p_c0 := P_3.out.cell 0
    have p_c1 := P_3.out.cell 1
    have p_c2 := P_3.out.cell 2
    simp at p_c0 p_c1 p_c2
    have p_l := P_3.out.lt
    go_wp2_with fail
    refine (pipeOk_any t r k HT.out).mono ?_
    rw [HPP.out]
    rintro e w4 ⟨rfl, hb4⟩
    clear p_c0 p_c1 p_c2 p_l
    have HC4 := Lib.hid (HA3.out.trans (hb4.mono HA3.out.size))
    have HW4 := Lib.hid (HW3.out.trans (HC4.out.mono HW3.out.size))
    have P_4 := Lib.hid (P_3.out.below HC4.out P_3.out.lt)
    clear hb4
    have HA4 := Lib.hid (show Below w4.heap.size w4 w4 from (Below.refl _ _))
    have p_c0 := P_4.out.cell 0
    have p_c1 := P_4.out.cell 1
    have p_c2 := P_4.out.cell 2
    simp at p_c0 p_c1 p_c2
    have p_l := P_4.out.lt
    go_wp2_with fail
    go_ret
    exact ⟨rfl, HW4.out.trans (HA4.out.mono HW4.out.size)⟩
  have HPP := Lib.hid hp
  by_cases h0 : r = 0
  case pos =>
    have e0 : (r == 0) = true := by rw [beq_iff_eq]; exact h0
    clear h0 hp
    have HA1 := Lib.hid (show Below w1.heap.size w1 (w1.alloc (.cells #[.string t, .int .i64 r, .int .i64 k] 24)) from ((Below.refl _ _).alloc (Nat.le_refl _) _))
    go_wp2_with fail
    refine (HO.out t r k HT.out).mono ?_
    rw [HPP.out]
    rintro e w2 ⟨rfl, hb2⟩
    have HC2 := Lib.hid (HA1.out.trans (hb2.mono HA1.out.size))
    have HW2 := Lib.hid (HW1.out.trans (HC2.out.mono HW1.out.size))
    have P_2 := Lib.hid ((Box.new w1 #[.string t, .int .i64 r, .int .i64 k] 24).below hb2 (by simp only [World.size_alloc]; omega))
    clear hb2
    have HA2 := Lib.hid (show Below w2.heap.size w2 w2 from (Below.refl _ _))
    have p_c0 := P_2.out.cell 0
    have p_c1 := P_2.out.cell 1
    have p_c2 := P_2.out.cell 2
    simp at p_c0 p_c1 p_c2
    have p_l := P_2.out.lt
    go_wp2_with fail
    refine (pipeOk_any t r k HT.out).mono ?_
    rw [HPP.out]
    rintro e w3 ⟨rfl, hb3⟩
    clear p_c0 p_c1 p_c2 p_l
    have HC3 := Lib.hid (HA2.out.trans (hb3.mono HA2.out.size))
    have HW3 := Lib.hid (HW2.out.trans (HC3.out.mono HW2.out.size))
    have P_3 := Lib.hid (P_2.out.below HC3.out P_2.out.lt)
    clear hb3
    have HA3 := Lib.hid (show Below w3.heap.size w3 w3 from (Below.refl _ _))
    have p_c0 := P_3.out.cell 0
    have p_c1 := P_3.out.cell 1
    have p_c2 := P_3.out.cell 2
    simp at p_c0 p_c1 p_c2
    have p_l := P_3.out.lt
    go_wp2_with fail
    refine (pipeOk_any t r k HT.out).mono ?_
    rw [HPP.out]
    rintro e w4 ⟨rfl, hb4⟩
    clear p_c0 p_c1 p_c2 p_l
    have HC4 := Lib.hid (HA3.out.trans (hb4.mono HA3.out.size))
    have HW4 := Lib.hid (HW3.out.trans (HC4.out.mono HW3.out.size))
    have P_4 := Lib.hid (P_3.out.below HC4.out P_3.out.lt)
    clear hb4
    have HA4 := Lib.hid (show Below w4.heap.size w4 w4 from (Below.refl _ _))
    have p_c0 := P_4.out.cell 0
    have p_c1 := P_4.out.cell 1
    have p_c2 := P_4.out.cell 2
    simp at p_c0 p_c1 p_c2
    have p_l := P_4.out.lt
    go_wp2_with fail
    go_ret
    exact ⟨rfl, HW4.out.trans (HA4.out.mono HW4.out.size)⟩
  have e0 : (r == 0) = false := by rw [beq_eq_false_iff_ne]; exact h0
  by_cases h1 : k = 0
  case pos =>
    have e1 : (k == 0) = true := by rw [beq_iff_eq]; exact h1
    clear h0 h1 hp
    have HA1 := Lib.hid (show Below w1.heap.size w1 (w1.alloc (.cells #[.string t, .int .i64 r, .int .i64 k] 24)) from ((Below.refl _ _).alloc (Nat.le_refl _) _))
    go_wp2_with fail
    refine (HO.out t r k HT.out).mono ?_
    rw [HPP.out]
    rintro e w2 ⟨rfl, hb2⟩
    have HC2 := Lib.hid (HA1.out.trans (hb2.mono HA1.out.size))
    have HW2 := Lib.hid (HW1.out.trans (HC2.out.mono HW1.out.size))
    have P_2 := Lib.hid ((Box.new w1 #[.string t, .int .i64 r, .int .i64 k] 24).below hb2 (by simp only [World.size_alloc]; omega))
    clear hb2
    have HA2 := Lib.hid (show Below w2.heap.size w2 w2 from (Below.refl _ _))
    have p_c0 := P_2.out.cell 0
    have p_c1 := P_2.out.cell 1
    have p_c2 := P_2.out.cell 2
    simp at p_c0 p_c1 p_c2
    have p_l := P_2.out.lt
    go_wp2_with fail
    refine (pipeOk_any t r k HT.out).mono ?_
    rw [HPP.out]
    rintro e w3 ⟨rfl, hb3⟩
    clear p_c0 p_c1 p_c2 p_l
    have HC3 := Lib.hid (HA2.out.trans (hb3.mono HA2.out.size))
    have HW3 := Lib.hid (HW2.out.trans (HC3.out.mono HW2.out.size))
    have P_3 := Lib.hid (P_2.out.below HC3.out P_2.out.lt)
    clear hb3
    have HA3 := Lib.hid (show Below w3.heap.size w3 w3 from (Below.refl _ _))
    have p_c0 := P_3.out.cell 0
    have p_c1 := P_3.out.cell 1
    have p_c2 := P_3.out.cell 2
    simp at p_c0 p_c1 p_c2
    have p_l := P_3.out.lt
    go_wp2_with fail
    refine (pipeOk_any t r k HT.out).mono ?_
    rw [HPP.out]
    rintro e w4 ⟨rfl, hb4⟩
    clear p_c0 p_c1 p_c2 p_l
    have HC4 := Lib.hid (HA3.out.trans (hb4.mono HA3.out.size))
    have HW4 := Lib.hid (HW3.out.trans (HC4.out.mono HW3.out.size))
    have P_4 := Lib.hid (P_3.out.below HC4.out P_3.out.lt)
    clear hb4
    have HA4 := Lib.hid (show Below w4.heap.size w4 w4 from (Below.refl _ _))
    have p_c0 := P_4.out.cell 0
    have p_c1 := P_4.out.cell 1
    have p_c2 := P_4.out.cell 2
    simp at p_c0 p_c1 p_c2
    have p_l := P_4.out.lt
    go_wp2_with fail
    go_ret
    exact ⟨rfl, HW4.out.trans (HA4.out.mono HW4.out.size)⟩
  have e1 : (k == 0) = false := by rw [beq_eq_false_iff_ne]; exact h1
  have H0 := Lib.hid h0
  clear h0 h1 hp
  have HA1 := Lib.hid (show Below w1.heap.size w1 (w1.alloc (.cells #[.string t, .int .i64 r, .int .i64 k] 24)) from ((Below.refl _ _).alloc (Nat.le_refl _) _))
  go_wp2_with fail
  refine (HO.out t r k HT.out).mono ?_
  rw [HPP.out]
  rintro e w2 ⟨rfl, hb2⟩
  have HC2 := Lib.hid (HA1.out.trans (hb2.mono HA1.out.size))
  have HW2 := Lib.hid (HW1.out.trans (HC2.out.mono HW1.out.size))
  have P_2 := Lib.hid ((Box.new w1 #[.string t, .int .i64 r, .int .i64 k] 24).below hb2 (by simp only [World.size_alloc]; omega))
  clear hb2
  have HA2 := Lib.hid (show Below w2.heap.size w2 w2 from (Below.refl _ _))
  have p_c0 := P_2.out.cell 0
  have p_c1 := P_2.out.cell 1
  have p_c2 := P_2.out.cell 2
  simp at p_c0 p_c1 p_c2
  have p_l := P_2.out.lt
  go_wp2_with fail
  refine (pipeOk_any t r k HT.out).mono ?_
  rw [HPP.out]
  rintro e w3 ⟨rfl, hb3⟩
  clear p_c0 p_c1 p_c2 p_l
  have HC3 := Lib.hid (HA2.out.trans (hb3.mono HA2.out.size))
  have HW3 := Lib.hid (HW2.out.trans (HC3.out.mono HW2.out.size))
  have P_3 := Lib.hid (P_2.out.below HC3.out P_2.out.lt)
  clear hb3
  have p_c0 := P_3.out.cell 0
  have p_c1 := P_3.out.cell 1
  have p_c2 := P_3.out.cell 2
  simp at p_c0 p_c1 p_c2
  have p_l := P_3.out.lt
  go_wp2_with fail
  clear p_c0 p_c1 p_c2 p_l
  have hXw : w.heap.size ≤ w1.heap.size := HW1.out.size
  have PX := Lib.hid P_3.out
  generalize hX : w1.heap.size = X at PX hXw
  have HXE := Lib.hid hX
  clear hX
  go_loopw [8, 9, 10] (fun a b i wr => ∃ (q : Nat) (iv ov pt : ByteArray), a = .string iv ∧ b = .string ov ∧ i = .int .i64 q ∧ q ≤ 60 ∧ q ≤ n2 ∧ ov ++ pt = iv ∧ iv.size ≤ 9 + 12 * q ∧ piB pt r k = true ∧ Box wr X #[.string pt, .int .i64 r, .int .i64 k] 24 ∧ Below w.heap.size w wr) (fun _ _ i _ => 60 - (intOf i).toNat)
  case atStart => exact ⟨0, t, ⟨#[]⟩, t, rfl, rfl, rfl, by omega, by omega, em_app t, by omega, HPP.out, PX.out, HW3.out⟩
  case round =>
    obtain ⟨q, iv, ov, pt, rfl, rfl, rfl, hq60, hqn, hot, hiv, hpk, hx, hb⟩ := hrel
    have HXB := Lib.hid hx
    have HB := Lib.hid hb
    have HPK := Lib.hid hpk
    have h8 := pi_size hpk
    have HPS := Lib.hid (show pt.size ≤ maxLen by unfold maxLen; omega)
    clear hx hb hpk
    have x0 := HXB.out.cell 0
    have x1 := HXB.out.cell 1
    have x2 := HXB.out.cell 2
    have xf0 := HXB.out.frz 0
    have xf1 := HXB.out.frz 1
    have xf2 := HXB.out.frz 2
    have xl := HXB.out.lt
    simp at x0 x1 x2
    by_cases hlt : q < n2
    case neg =>
      have hlt' : ¬ ((q : Int) < n2) := by omega
      subst hot
      have q3 : (9223372036854775807 < ov.size + pt.size) = False := eq_false (by rw [ByteArray.size_append] at hiv; omega)
      clear hiv
      go_wp2_with fail
      refine (HO.out pt r k HPS.out).mono ?_
      rw [HPK.out]
      rintro e w7 ⟨rfl, hb7⟩
      have HB7 := Lib.hid (HB.out.trans (hb7.mono HB.out.size))
      clear hb7
      go_wp2_with fail
      go_ret
      exact ⟨rfl, HB7.out⟩
    by_cases hlt2 : q = 60
    case pos =>
      subst hlt2
      subst hot
      have q3 : (9223372036854775807 < ov.size + pt.size) = False := eq_false (by rw [ByteArray.size_append] at hiv; omega)
      clear hiv
      go_wp2_with fail
      refine (HO.out pt r k HPS.out).mono ?_
      rw [HPK.out]
      rintro e w7 ⟨rfl, hb7⟩
      have HB7 := Lib.hid (HB.out.trans (hb7.mono HB.out.size))
      clear hb7
      go_wp2_with fail
      go_ret
      exact ⟨rfl, HB7.out⟩
    have hl3 : (q : Int) < 60 := by omega
    have hl4 : (q : Int) < n2 := by omega
    have hl5 : (0 : Int) ≤ q := by omega
    have HOT := Lib.hid hot
    clear hot
    obtain ⟨bm, om, rfl, hbm, hcm⟩ := HMORE.out.2 (by omega)
    obtain ⟨u, hu, u0, u1⟩ := hcm q hlt
    have c0 := (kc HB.out _ _ hbm).trans hu
    have hbw : bm < wr.heap.size := Nat.lt_of_lt_of_le hbm HB.out.size
    clear hcm hu
    by_cases hev : u % 2 = 0
    · have ev : (u % 2 == 0) = true := by rw [beq_iff_eq]; exact hev
      clear hev
      by_cases hcode : (putR pt r k x).2.2 = 0
      case neg =>
        have hne : ((putR pt r k x).2.2 == 0) = false := by rw [beq_eq_false_iff_ne]; exact hcode
        clear hcode
        generalize hRe : putR pt r k x = R at hne
        have HRE := Lib.hid hRe
        clear hRe
        go_wp2_with fail
        refine (HU.out pt r k x HPS.out HX.out).mono ?_
        rw [HRE.out]
        rintro e w7 ⟨rfl, hb7⟩
        have HX7 := Lib.hid (HXB.out.below hb7 HXB.out.lt)
        have HB7 := Lib.hid (HB.out.trans (hb7.mono HB.out.size))
        clear hb7 x0 x1 x2 xf0 xf1 xf2 xl
        go_wp2_with fail
        exact ⟨⟨q + 1, iv, ov, pt, rfl, rfl, by go_num, by omega, by omega, HOT.out, by omega, HPK.out, HX7.out.alloc _, HB7.out.alloc HB7.out.size _⟩, by simp [intOf]; omega⟩
      obtain ⟨m, m1, m2, m3, m4, m5, m6, m7, m8⟩ := put_fine hcode
      have HRE := Lib.hid m8
      have HPN := Lib.hid m7
      have q1 : (0 : Int) ≤ (m : Int) := by omega
      have q2 : (m : Int) ≤ (x.size : Int) := by omega
      have q3 : (9223372036854775807 < iv.size + min m x.size) = False := eq_false (by omega)
      have q4 : (9223372036854775807 < iv.size + m) = False := eq_false (by omega)
      clear hcode m4 m5 m6 m7 m8 m2
      go_wp2_with fail
      refine (HU.out pt r k x HPS.out HX.out).mono ?_
      rw [HRE.out]
      rintro e w7 ⟨rfl, hb7⟩
      have HX7 := Lib.hid (HXB.out.below hb7 HXB.out.lt)
      have HB7 := Lib.hid (HB.out.trans (hb7.mono HB.out.size))
      clear hb7 x0 x1 x2 xf0 xf1 xf2 xl
      have x0 := HX7.out.cell 0
      have x1 := HX7.out.cell 1
      have x2 := HX7.out.cell 2
      have xf0 := HX7.out.frz 0
      have xf1 := HX7.out.frz 1
      have xf2 := HX7.out.frz 2
      have xl := HX7.out.lt
      simp at x0 x1 x2
      have HX8 := Lib.hid (Box.set3 HX7.out (.string (pt ++ x.extract 0 m)) (.int .i64 r) (.int .i64 k) (.cells #[.string (pt ++ x.extract 0 m), .int .i64 r, .int .i64 k] 24))
      go_wp2_with fail
      refine ⟨⟨q + 1, iv ++ x.extract 0 m, ov, pt ++ x.extract 0 m, rfl, rfl, by go_num, by omega, by omega, ?_, ?_, HPN.out, HX8.out, (((HB7.out.setCell (by dsimp only; exact hXw) _).setCell (by dsimp only; exact hXw) _).setCell (by dsimp only; exact hXw) _).alloc (by simp only [World.size_setCell]; exact HB7.out.size) _⟩, by simp [intOf]; omega⟩
      · rw [← ByteArray.append_assoc, HOT.out]
      · rw [ByteArray.size_append, ByteArray.size_extract]
        omega
    · have ev : (u % 2 == 0) = false := by rw [beq_eq_false_iff_ne]; exact hev
      clear hev
      go_wp2_with fail
      obtain ⟨D, hD⟩ : ∃ D : Int, u / 32 = D := ⟨_, rfl⟩
      have hD0 : 0 ≤ D := by omega
      have hD1 : D ≤ 7 := by omega
      have d1 : IntKind.i64.wrap u = u := IntWalk.i64_in _ (by omega)
      have d2 : u.tdiv 32 = D := by rw [Int.tdiv_eq_ediv_of_nonneg u0]; exact hD
      have d3 : IntKind.i64.wrap D = D := IntWalk.i64_in _ (by omega)
      by_cases hcode : (takR pt r k D).2.2 = 0
      case neg =>
        have hne : ((takR pt r k D).2.2 == 0) = false := by rw [beq_eq_false_iff_ne]; exact hcode
        clear hcode
        generalize hRe : takR pt r k D = R at hne
        have HRE := Lib.hid hRe
        clear hRe
        refine wp_region_held_drew (S := fun w' => w'.cell? ⟨X, 0, none⟩ = some (.string pt) ∧ w'.cell? ⟨X, 1, none⟩ = some (.int .i64 r) ∧ w'.cell? ⟨X, 2, none⟩ = some (.int .i64 k) ∧ w'.cell? ⟨bm, om + q, none⟩ = some (.int .u8 u)) (by kernel_rfl) ⟨x0, x1, x2, c0⟩ (fun hHeld => ?_)
        refine wpAnyH_take (i := 0) (v := ?vn0) rfl (by kernel_rfl) (by kernel_rfl) (by kernel_rfl) (fun _ _ _ h => h) (Or.inl ⟨by rfl, ?hyn0⟩) (by assumption) ?restn0
        case hyn0 =>
          intro w hSw
          try dsimp only at hSw
          go_simp
          try with_reducible rfl
        simp only [Act.put, List.setIfInBounds_toArray, List.set_cons_zero, List.set_cons_succ, List.getElem_toArray, List.getElem_cons_zero]
        refine wpAnyH_take (i := 1) (v := ?vn1) rfl (by kernel_rfl) (by kernel_rfl) (by kernel_rfl) (fun _ _ _ h => h) (Or.inl ⟨by rfl, ?hyn1⟩) (by assumption) ?restn1
        case hyn1 =>
          intro w hSw
          try dsimp only at hSw
          go_simp
          try with_reducible rfl
        simp only [Act.put, List.setIfInBounds_toArray, List.set_cons_zero, List.set_cons_succ, List.getElem_toArray, List.getElem_cons_zero, List.getElem_cons_succ]
        refine wpAnyH_take (i := 2) (v := ?vn2) rfl (by kernel_rfl) (by kernel_rfl) (by kernel_rfl) (fun _ _ _ h => h) (Or.inl ⟨by rfl, ?hyn2⟩) (by assumption) ?restn2
        case hyn2 =>
          intro w hSw
          try dsimp only at hSw
          go_simp
          try with_reducible rfl
        simp only [Act.put, List.setIfInBounds_toArray, List.set_cons_zero, List.set_cons_succ, List.getElem_toArray, List.getElem_cons_zero, List.getElem_cons_succ]
        refine wpAnyH_take (i := 3) (v := ?vn3) rfl (by kernel_rfl) (by kernel_rfl) (by kernel_rfl) (fun _ _ _ h => h) (Or.inl ⟨by rfl, ?hyn3⟩) (by assumption) ?restn3
        case hyn3 =>
          intro w hSw
          try dsimp only at hSw
          go_simp
          try with_reducible rfl
        simp only [Act.put, List.setIfInBounds_toArray, List.set_cons_zero, List.set_cons_succ, List.getElem_toArray, List.getElem_cons_zero, List.getElem_cons_succ]
        refine wpAnyH_take (i := 4) (v := ?vn4) rfl (by kernel_rfl) (by kernel_rfl) (by kernel_rfl) (fun _ _ _ h => h) (Or.inl ⟨by rfl, ?hyn4⟩) (by assumption) ?restn4
        case hyn4 =>
          intro w hSw
          try dsimp only at hSw
          go_simp
          try with_reducible rfl
        simp only [Act.put, List.setIfInBounds_toArray, List.set_cons_zero, List.set_cons_succ, List.getElem_toArray, List.getElem_cons_zero, List.getElem_cons_succ]
        refine wpAnyH_take (i := 5) (v := ?vn5) rfl (by kernel_rfl) (by kernel_rfl) (by kernel_rfl) (fun _ _ _ h => h) (Or.inl ⟨by rfl, ?hyn5⟩) (by assumption) ?restn5
        case hyn5 =>
          intro w hSw
          try dsimp only at hSw
          go_simp
          try with_reducible rfl
        simp only [Act.put, List.setIfInBounds_toArray, List.set_cons_zero, List.set_cons_succ, List.getElem_toArray, List.getElem_cons_zero, List.getElem_cons_succ]
        refine wpAnyH_take (i := 6) (v := ?vn6) rfl (by kernel_rfl) (by kernel_rfl) (by kernel_rfl) (fun _ _ _ h => h) (Or.inl ⟨by rfl, ?hyn6⟩) (by assumption) ?restn6
        case hyn6 =>
          intro w hSw
          try dsimp only at hSw
          go_simp
          try with_reducible rfl
        simp only [Act.put, List.setIfInBounds_toArray, List.set_cons_zero, List.set_cons_succ, List.getElem_toArray, List.getElem_cons_zero, List.getElem_cons_succ]
        refine wpAnyH_ready (rs := [7, 12]) (by kernel_rfl) (by simp) ?_
        refine (AllReadyH.cons rfl (fun K hK => ?_) (AllReadyH.cons rfl (fun K hK => ?_) AllReadyH.nil))
        · go_simp
          go_at_call 27
          refine (HM.out pt r k D HPS.out).mono ?_
          rw [HRE.out]
          rintro e w7 ⟨rfl, hb7'⟩
          have hb7 : Below wr.heap.size wr w7 := (Below.refl wr.heap.size wr).drew.trans (hb7'.mono (Nat.le_refl _))
          have HX7 := Lib.hid (HXB.out.below hb7 HXB.out.lt)
          have HB7 := Lib.hid (HB.out.trans (hb7.mono HB.out.size))
          have c7 := (kc hb7 _ _ hbw).trans c0
          have hb7w := hb7.size
          clear hb7' hb7
          refine hK.out _ _ ⟨HX7.out.cell 0, HX7.out.cell 1, HX7.out.cell 2, c7⟩ (fun hHeld => ?_)
          clear hK K
          try simp only [Act.put, List.setIfInBounds_toArray, List.set_cons_zero, List.set_cons_succ, List.getElem_toArray, List.getElem_cons_zero, List.getElem_cons_succ]
          refine wpAnyH_take (i := 8) (v := ?vnp8) rfl (by kernel_rfl) (by kernel_rfl) (by kernel_rfl) (fun _ _ _ h => h) (Or.inl ⟨by rfl, ?hynp8⟩) (by assumption) ?restnp8
          case hynp8 =>
            intro w hSw
            try dsimp only at hSw
            go_simp
            try with_reducible rfl
          simp only [Act.put, List.setIfInBounds_toArray, List.set_cons_zero, List.set_cons_succ, List.getElem_toArray, List.getElem_cons_zero, List.getElem_cons_succ]
          refine wpAnyH_take (i := 9) (v := ?vnp9) rfl (by kernel_rfl) (by kernel_rfl) (by kernel_rfl) (fun _ _ _ h => h) (Or.inl ⟨by rfl, ?hynp9⟩) (by assumption) ?restnp9
          case hynp9 =>
            intro w hSw
            try dsimp only at hSw
            go_simp
            try with_reducible rfl
          simp only [Act.put, List.setIfInBounds_toArray, List.set_cons_zero, List.set_cons_succ, List.getElem_toArray, List.getElem_cons_zero, List.getElem_cons_succ]
          refine wpAnyH_take (i := 10) (v := ?vnp10) rfl (by kernel_rfl) (by kernel_rfl) (by kernel_rfl) (fun _ _ _ h => h) (Or.inl ⟨by rfl, ?hynp10⟩) (by assumption) ?restnp10
          case hynp10 =>
            intro w hSw
            try dsimp only at hSw
            go_simp
            try with_reducible rfl
          simp only [Act.put, List.setIfInBounds_toArray, List.set_cons_zero, List.set_cons_succ, List.getElem_toArray, List.getElem_cons_zero, List.getElem_cons_succ]
          refine wpAnyH_take (i := 11) (v := ?vnp11) rfl (by kernel_rfl) (by kernel_rfl) (by kernel_rfl) (fun _ _ _ h => h) (Or.inl ⟨by rfl, ?hynp11⟩) (by assumption) ?restnp11
          case hynp11 =>
            intro w hSw
            try dsimp only at hSw
            go_simp
            try with_reducible rfl
          simp only [Act.put, List.setIfInBounds_toArray, List.set_cons_zero, List.set_cons_succ, List.getElem_toArray, List.getElem_cons_zero, List.getElem_cons_succ]
          refine wpAnyH_ready (rs := [12]) (by kernel_rfl) (by simp) ?_
          refine AllReadyH.cons rfl (fun K hK => ?_) AllReadyH.nil
          go_simp
          have HX9 := Lib.hid (HX7.out.alloc (.cells #[.string ⟨#[]⟩, .int .i64 0, .int .i64 0] 24))
          refine hK.out _ _ ⟨HX9.out.cell 0, HX9.out.cell 1, HX9.out.cell 2, (World.cell?_alloc_lt _ _ _ (show bm < w7.heap.size by omega)).trans c7⟩ (fun hHeld => ?_)
          clear hK K HX9
          try simp only [Act.put, List.setIfInBounds_toArray, List.set_cons_zero, List.set_cons_succ, List.getElem_toArray, List.getElem_cons_zero, List.getElem_cons_succ]
          refine wpAnyH_ready (rs := [13]) (by kernel_rfl) (by simp) ?_
          refine AllReadyH.cons rfl (fun K hK => ?_) AllReadyH.nil
          go_simp
          have HX9 := Lib.hid (HX7.out.alloc (.cells #[.string R.1.1, .int .i64 R.1.2.1, .int .i64 R.1.2.2] 24))
          refine hK.out _ _ ⟨HX9.out.cell 0, HX9.out.cell 1, HX9.out.cell 2, (World.cell?_alloc_lt _ _ _ (show bm < w7.heap.size by omega)).trans c7⟩ (fun hHeld => ?_)
          clear hK K
          try simp only [Act.put, List.setIfInBounds_toArray, List.set_cons_zero, List.set_cons_succ, List.getElem_toArray, List.getElem_cons_zero, List.getElem_cons_succ]
          refine wpAnyH_take (i := 14) (v := ?vnp14) rfl (by kernel_rfl) (by kernel_rfl) (by kernel_rfl) (fun _ _ _ h => h) (Or.inl ⟨by rfl, ?hynp14⟩) (by assumption) ?restnp14
          case hynp14 =>
            intro w hSw
            try dsimp only at hSw
            go_simp
            try with_reducible rfl
          simp only [Act.put, List.setIfInBounds_toArray, List.set_cons_zero, List.set_cons_succ, List.getElem_toArray, List.getElem_cons_zero, List.getElem_cons_succ]
          refine wpAnyH_take (i := 15) (v := ?vnp15) rfl (by kernel_rfl) (by kernel_rfl) (by kernel_rfl) (fun _ _ _ h => h) (Or.inl ⟨by rfl, ?hynp15⟩) (by assumption) ?restnp15
          case hynp15 =>
            intro w hSw
            try dsimp only at hSw
            go_simp
            try with_reducible rfl
          simp only [Act.put, List.setIfInBounds_toArray, List.set_cons_zero, List.set_cons_succ, List.getElem_toArray, List.getElem_cons_zero, List.getElem_cons_succ]
          refine wpAnyH_done (by kernel_rfl) ?_ _
          clear hHeld x0 x1 x2 xf0 xf1 xf2 xl c0 c7
          go_wp2_with fail
          exact ⟨⟨q + 1, iv, ov, pt, rfl, rfl, by go_num, by omega, by omega, HOT.out, by omega, HPK.out, HX9.out, HB7.out.alloc HB7.out.size _⟩, by simp [intOf]; omega⟩
        · go_simp
          have HXA := Lib.hid (HXB.out.alloc (.cells #[.string ⟨#[]⟩, .int .i64 0, .int .i64 0] 24))
          have hxy : ¬ (X = wr.heap.size) := Nat.ne_of_lt HXB.out.lt
          have hyx : ¬ (wr.heap.size = X) := fun e => hxy e.symm
          have hby : bm ≠ wr.heap.size := Nat.ne_of_lt hbw
          refine hK.out _ _ ⟨HXA.out.cell 0, HXA.out.cell 1, HXA.out.cell 2, (World.cell?_alloc_lt _ _ _ hbw).trans c0⟩ (fun hHeld => ?_)
          clear hK K
          try simp only [Act.put, List.setIfInBounds_toArray, List.set_cons_zero, List.set_cons_succ, List.getElem_toArray, List.getElem_cons_zero, List.getElem_cons_succ]
          refine wpAnyH_ready (rs := [7]) (by kernel_rfl) (by simp) ?_
          refine AllReadyH.cons rfl (fun K hK => ?_) AllReadyH.nil
          go_simp
          go_at_call 27
          refine (HM.out pt r k D HPS.out).mono ?_
          rw [HRE.out]
          rintro e w7 ⟨rfl, hb7'⟩
          have hbA : Below wr.heap.size wr ((wr.alloc (.cells #[.string ⟨#[]⟩, .int .i64 0, .int .i64 0] 24)).drew) := ((Below.refl _ _).alloc (Nat.le_refl _) _).drew
          have hb7 : Below wr.heap.size wr w7 := hbA.trans (hb7'.mono (by show wr.heap.size ≤ (wr.alloc _).heap.size; rw [World.size_alloc]; omega))
          have HY7 := Lib.hid (show Box w7 wr.heap.size #[.string ⟨#[]⟩, .int .i64 0, .int .i64 0] 24 from (show Box ((wr.alloc (.cells #[.string ⟨#[]⟩, .int .i64 0, .int .i64 0] 24)).drew) wr.heap.size _ _ from Box.new wr _ _).below hb7' (by show wr.heap.size < (wr.alloc (.cells #[.string ⟨#[]⟩, .int .i64 0, .int .i64 0] 24)).heap.size; rw [World.size_alloc]; omega))
          have HX7 := Lib.hid (HXB.out.below hb7 HXB.out.lt)
          have HB7 := Lib.hid (HB.out.trans (hb7.mono HB.out.size))
          have c7 := (kc hb7 _ _ hbw).trans c0
          have hwr := HB.out.size
          clear hb7' hb7 hbA HXA
          refine hK.out _ _ ⟨HX7.out.cell 0, HX7.out.cell 1, HX7.out.cell 2, c7⟩ (fun hHeld => ?_)
          clear hK K
          try simp only [Act.put, List.setIfInBounds_toArray, List.set_cons_zero, List.set_cons_succ, List.getElem_toArray, List.getElem_cons_zero, List.getElem_cons_succ]
          refine wpAnyH_take (i := 8) (v := ?vnq8) rfl (by kernel_rfl) (by kernel_rfl) (by kernel_rfl) (fun _ _ _ h => h) (Or.inl ⟨by rfl, ?hynq8⟩) (by assumption) ?restnq8
          case hynq8 =>
            intro w hSw
            try dsimp only at hSw
            go_simp
            try with_reducible rfl
          simp only [Act.put, List.setIfInBounds_toArray, List.set_cons_zero, List.set_cons_succ, List.getElem_toArray, List.getElem_cons_zero, List.getElem_cons_succ]
          refine wpAnyH_take (i := 9) (v := ?vnq9) rfl (by kernel_rfl) (by kernel_rfl) (by kernel_rfl) (fun _ _ _ h => h) (Or.inl ⟨by rfl, ?hynq9⟩) (by assumption) ?restnq9
          case hynq9 =>
            intro w hSw
            try dsimp only at hSw
            go_simp
            try with_reducible rfl
          simp only [Act.put, List.setIfInBounds_toArray, List.set_cons_zero, List.set_cons_succ, List.getElem_toArray, List.getElem_cons_zero, List.getElem_cons_succ]
          refine wpAnyH_take (i := 10) (v := ?vnq10) rfl (by kernel_rfl) (by kernel_rfl) (by kernel_rfl) (fun _ _ _ h => h) (Or.inl ⟨by rfl, ?hynq10⟩) (by assumption) ?restnq10
          case hynq10 =>
            intro w hSw
            try dsimp only at hSw
            go_simp
            try with_reducible rfl
          simp only [Act.put, List.setIfInBounds_toArray, List.set_cons_zero, List.set_cons_succ, List.getElem_toArray, List.getElem_cons_zero, List.getElem_cons_succ]
          refine wpAnyH_take (i := 11) (v := ?vnq11) rfl (by kernel_rfl) (by kernel_rfl) (by kernel_rfl) (fun _ _ _ h => h) (Or.inl ⟨by rfl, ?hynq11⟩) (by assumption) ?restnq11
          case hynq11 =>
            intro w hSw
            try dsimp only at hSw
            go_simp
            try with_reducible rfl
          simp only [Act.put, List.setIfInBounds_toArray, List.set_cons_zero, List.set_cons_succ, List.getElem_toArray, List.getElem_cons_zero, List.getElem_cons_succ]
          clear x0 x1 x2 xf0 xf1 xf2 xl
          have y0 := HY7.out.cell 0
          have y1 := HY7.out.cell 1
          have y2 := HY7.out.cell 2
          have yf0 := HY7.out.frz 0
          have yf1 := HY7.out.frz 1
          have yf2 := HY7.out.frz 2
          have yl := HY7.out.lt
          simp at y0 y1 y2
          refine wpAnyH_ready (rs := [13]) (by kernel_rfl) (by simp) ?_
          refine AllReadyH.cons rfl (fun K hK => ?_) AllReadyH.nil
          go_simp
          have HX9 := Lib.hid (((HX7.out.other (a := ⟨wr.heap.size, 0, none⟩) hxy (.string R.1.1)).other (a := ⟨wr.heap.size, 1, none⟩) hxy (.int .i64 R.1.2.1)).other (a := ⟨wr.heap.size, 2, none⟩) hxy (.int .i64 R.1.2.2))
          refine hK.out _ _ ⟨HX9.out.cell 0, HX9.out.cell 1, HX9.out.cell 2, (((cell_off (fun e => hby e.symm)).trans (cell_off (fun e => hby e.symm))).trans (cell_off (fun e => hby e.symm))).trans c7⟩ (fun hHeld => ?_)
          clear hK K
          refine wpAnyH_take (i := 14) (v := ?vnq14) rfl (by kernel_rfl) (by kernel_rfl) (by kernel_rfl) (fun _ _ _ h => h) (Or.inl ⟨by rfl, ?hynq14⟩) (by assumption) ?restnq14
          case hynq14 =>
            intro w hSw
            try dsimp only at hSw
            go_simp
            try with_reducible rfl
          simp only [Act.put, List.setIfInBounds_toArray, List.set_cons_zero, List.set_cons_succ, List.getElem_toArray, List.getElem_cons_zero, List.getElem_cons_succ]
          refine wpAnyH_take (i := 15) (v := ?vnq15) rfl (by kernel_rfl) (by kernel_rfl) (by kernel_rfl) (fun _ _ _ h => h) (Or.inl ⟨by rfl, ?hynq15⟩) (by assumption) ?restnq15
          case hynq15 =>
            intro w hSw
            try dsimp only at hSw
            go_simp
            try with_reducible rfl
          simp only [Act.put, List.setIfInBounds_toArray, List.set_cons_zero, List.set_cons_succ, List.getElem_toArray, List.getElem_cons_zero, List.getElem_cons_succ]
          refine wpAnyH_done (by kernel_rfl) ?_ _
          clear hHeld c0 c7
          go_wp2_with fail
          exact ⟨⟨q + 1, iv, ov, pt, rfl, rfl, by go_num, by omega, by omega, HOT.out, by omega, HPK.out, HX9.out, ((HB7.out.setCell (by dsimp only; exact hwr) _).setCell (by dsimp only; exact hwr) _).setCell (by dsimp only; exact hwr) _⟩, by simp [intOf]; omega⟩
      obtain ⟨a7, a71, _, _, _, _, a76, a77⟩ := tak_fine hcode
      have HRE := Lib.hid a77
      have HPN := Lib.hid a76
      have hov : ov.size ≤ iv.size := by
        rw [← HOT.out, ByteArray.size_append]
        omega
      have q3 : (9223372036854775807 < ov.size + min a7 pt.size) = False := eq_false (by omega)
      have q4 : (9223372036854775807 < ov.size + a7) = False := eq_false (by omega)
      clear hcode a76 a77
      refine wp_region_held_drew (S := fun w' => w'.cell? ⟨X, 0, none⟩ = some (.string pt) ∧ w'.cell? ⟨X, 1, none⟩ = some (.int .i64 r) ∧ w'.cell? ⟨X, 2, none⟩ = some (.int .i64 k) ∧ w'.cell? ⟨bm, om + q, none⟩ = some (.int .u8 u)) (by kernel_rfl) ⟨x0, x1, x2, c0⟩ (fun hHeld => ?_)
      refine wpAnyH_take (i := 0) (v := ?vf0) rfl (by kernel_rfl) (by kernel_rfl) (by kernel_rfl) (fun _ _ _ h => h) (Or.inl ⟨by rfl, ?hyf0⟩) (by assumption) ?restf0
      case hyf0 =>
        intro w hSw
        try dsimp only at hSw
        go_simp
        try with_reducible rfl
      simp only [Act.put, List.setIfInBounds_toArray, List.set_cons_zero, List.set_cons_succ, List.getElem_toArray, List.getElem_cons_zero]
      refine wpAnyH_take (i := 1) (v := ?vf1) rfl (by kernel_rfl) (by kernel_rfl) (by kernel_rfl) (fun _ _ _ h => h) (Or.inl ⟨by rfl, ?hyf1⟩) (by assumption) ?restf1
      case hyf1 =>
        intro w hSw
        try dsimp only at hSw
        go_simp
        try with_reducible rfl
      simp only [Act.put, List.setIfInBounds_toArray, List.set_cons_zero, List.set_cons_succ, List.getElem_toArray, List.getElem_cons_zero, List.getElem_cons_succ]
      refine wpAnyH_take (i := 2) (v := ?vf2) rfl (by kernel_rfl) (by kernel_rfl) (by kernel_rfl) (fun _ _ _ h => h) (Or.inl ⟨by rfl, ?hyf2⟩) (by assumption) ?restf2
      case hyf2 =>
        intro w hSw
        try dsimp only at hSw
        go_simp
        try with_reducible rfl
      simp only [Act.put, List.setIfInBounds_toArray, List.set_cons_zero, List.set_cons_succ, List.getElem_toArray, List.getElem_cons_zero, List.getElem_cons_succ]
      refine wpAnyH_take (i := 3) (v := ?vf3) rfl (by kernel_rfl) (by kernel_rfl) (by kernel_rfl) (fun _ _ _ h => h) (Or.inl ⟨by rfl, ?hyf3⟩) (by assumption) ?restf3
      case hyf3 =>
        intro w hSw
        try dsimp only at hSw
        go_simp
        try with_reducible rfl
      simp only [Act.put, List.setIfInBounds_toArray, List.set_cons_zero, List.set_cons_succ, List.getElem_toArray, List.getElem_cons_zero, List.getElem_cons_succ]
      refine wpAnyH_take (i := 4) (v := ?vf4) rfl (by kernel_rfl) (by kernel_rfl) (by kernel_rfl) (fun _ _ _ h => h) (Or.inl ⟨by rfl, ?hyf4⟩) (by assumption) ?restf4
      case hyf4 =>
        intro w hSw
        try dsimp only at hSw
        go_simp
        try with_reducible rfl
      simp only [Act.put, List.setIfInBounds_toArray, List.set_cons_zero, List.set_cons_succ, List.getElem_toArray, List.getElem_cons_zero, List.getElem_cons_succ]
      refine wpAnyH_take (i := 5) (v := ?vf5) rfl (by kernel_rfl) (by kernel_rfl) (by kernel_rfl) (fun _ _ _ h => h) (Or.inl ⟨by rfl, ?hyf5⟩) (by assumption) ?restf5
      case hyf5 =>
        intro w hSw
        try dsimp only at hSw
        go_simp
        try with_reducible rfl
      simp only [Act.put, List.setIfInBounds_toArray, List.set_cons_zero, List.set_cons_succ, List.getElem_toArray, List.getElem_cons_zero, List.getElem_cons_succ]
      refine wpAnyH_take (i := 6) (v := ?vf6) rfl (by kernel_rfl) (by kernel_rfl) (by kernel_rfl) (fun _ _ _ h => h) (Or.inl ⟨by rfl, ?hyf6⟩) (by assumption) ?restf6
      case hyf6 =>
        intro w hSw
        try dsimp only at hSw
        go_simp
        try with_reducible rfl
      simp only [Act.put, List.setIfInBounds_toArray, List.set_cons_zero, List.set_cons_succ, List.getElem_toArray, List.getElem_cons_zero, List.getElem_cons_succ]
      refine wpAnyH_ready (rs := [7, 12]) (by kernel_rfl) (by simp) ?_
      refine (AllReadyH.cons rfl (fun K hK => ?_) (AllReadyH.cons rfl (fun K hK => ?_) AllReadyH.nil))
      · go_simp
        go_at_call 27
        refine (HM.out pt r k D HPS.out).mono ?_
        rw [HRE.out]
        rintro e w7 ⟨rfl, hb7'⟩
        have hb7 : Below wr.heap.size wr w7 := (Below.refl wr.heap.size wr).drew.trans (hb7'.mono (Nat.le_refl _))
        have HX7 := Lib.hid (HXB.out.below hb7 HXB.out.lt)
        have HB7 := Lib.hid (HB.out.trans (hb7.mono HB.out.size))
        have c7 := (kc hb7 _ _ hbw).trans c0
        have hb7w := hb7.size
        clear hb7' hb7
        refine hK.out _ _ ⟨HX7.out.cell 0, HX7.out.cell 1, HX7.out.cell 2, c7⟩ (fun hHeld => ?_)
        clear hK K
        refine wpAnyH_take (i := 8) (v := ?vfp8) rfl (by kernel_rfl) (by kernel_rfl) (by kernel_rfl) (fun _ _ _ h => h) (Or.inl ⟨by rfl, ?hyfp8⟩) (by assumption) ?restfp8
        case hyfp8 =>
          intro w hSw
          try dsimp only at hSw
          go_simp
          try with_reducible rfl
        simp only [Act.put, List.setIfInBounds_toArray, List.set_cons_zero, List.set_cons_succ, List.getElem_toArray, List.getElem_cons_zero, List.getElem_cons_succ]
        refine wpAnyH_take (i := 9) (v := ?vfp9) rfl (by kernel_rfl) (by kernel_rfl) (by kernel_rfl) (fun _ _ _ h => h) (Or.inl ⟨by rfl, ?hyfp9⟩) (by assumption) ?restfp9
        case hyfp9 =>
          intro w hSw
          try dsimp only at hSw
          go_simp
          try with_reducible rfl
        simp only [Act.put, List.setIfInBounds_toArray, List.set_cons_zero, List.set_cons_succ, List.getElem_toArray, List.getElem_cons_zero, List.getElem_cons_succ]
        refine wpAnyH_take (i := 10) (v := ?vfp10) rfl (by kernel_rfl) (by kernel_rfl) (by kernel_rfl) (fun _ _ _ h => h) (Or.inl ⟨by rfl, ?hyfp10⟩) (by assumption) ?restfp10
        case hyfp10 =>
          intro w hSw
          try dsimp only at hSw
          go_simp
          try with_reducible rfl
        simp only [Act.put, List.setIfInBounds_toArray, List.set_cons_zero, List.set_cons_succ, List.getElem_toArray, List.getElem_cons_zero, List.getElem_cons_succ]
        refine wpAnyH_take (i := 11) (v := ?vfp11) rfl (by kernel_rfl) (by kernel_rfl) (by kernel_rfl) (fun _ _ _ h => h) (Or.inl ⟨by rfl, ?hyfp11⟩) (by assumption) ?restfp11
        case hyfp11 =>
          intro w hSw
          try dsimp only at hSw
          go_simp
          try with_reducible rfl
        simp only [Act.put, List.setIfInBounds_toArray, List.set_cons_zero, List.set_cons_succ, List.getElem_toArray, List.getElem_cons_zero, List.getElem_cons_succ]
        refine wpAnyH_ready (rs := [12]) (by kernel_rfl) (by simp) ?_
        refine AllReadyH.cons rfl (fun K hK => ?_) AllReadyH.nil
        go_simp
        have HX9 := Lib.hid (HX7.out.alloc (.cells #[.string ⟨#[]⟩, .int .i64 0, .int .i64 0] 24))
        refine hK.out _ _ ⟨HX9.out.cell 0, HX9.out.cell 1, HX9.out.cell 2, (World.cell?_alloc_lt _ _ _ (show bm < w7.heap.size by omega)).trans c7⟩ (fun hHeld => ?_)
        clear hK K HX9
        try simp only [Act.put, List.setIfInBounds_toArray, List.set_cons_zero, List.set_cons_succ, List.getElem_toArray, List.getElem_cons_zero, List.getElem_cons_succ]
        refine wpAnyH_ready (rs := [13]) (by kernel_rfl) (by simp) ?_
        refine AllReadyH.cons rfl (fun K hK => ?_) AllReadyH.nil
        go_simp
        have HX9 := Lib.hid (HX7.out.alloc (.cells #[.string (pt.extract a7 pt.size), .int .i64 r, .int .i64 k] 24))
        refine hK.out _ _ ⟨HX9.out.cell 0, HX9.out.cell 1, HX9.out.cell 2, (World.cell?_alloc_lt _ _ _ (show bm < w7.heap.size by omega)).trans c7⟩ (fun hHeld => ?_)
        clear hK K
        try simp only [Act.put, List.setIfInBounds_toArray, List.set_cons_zero, List.set_cons_succ, List.getElem_toArray, List.getElem_cons_zero, List.getElem_cons_succ]
        refine wpAnyH_take (i := 14) (v := ?vfp14) rfl (by kernel_rfl) (by kernel_rfl) (by kernel_rfl) (fun _ _ _ h => h) (Or.inl ⟨by rfl, ?hyfp14⟩) (by assumption) ?restfp14
        case hyfp14 =>
          intro w hSw
          try dsimp only at hSw
          go_simp
          try with_reducible rfl
        simp only [Act.put, List.setIfInBounds_toArray, List.set_cons_zero, List.set_cons_succ, List.getElem_toArray, List.getElem_cons_zero, List.getElem_cons_succ]
        refine wpAnyH_take (i := 15) (v := ?vfp15) rfl (by kernel_rfl) (by kernel_rfl) (by kernel_rfl) (fun _ _ _ h => h) (Or.inl ⟨by rfl, ?hyfp15⟩) (by assumption) ?restfp15
        case hyfp15 =>
          intro w hSw
          try dsimp only at hSw
          go_simp
          try with_reducible rfl
        simp only [Act.put, List.setIfInBounds_toArray, List.set_cons_zero, List.set_cons_succ, List.getElem_toArray, List.getElem_cons_zero, List.getElem_cons_succ]
        refine wpAnyH_done (by kernel_rfl) ?_ _
        clear hHeld x0 x1 x2 xf0 xf1 xf2 xl c0 c7
        have x0 := HX7.out.cell 0
        have x1 := HX7.out.cell 1
        have x2 := HX7.out.cell 2
        have xf0 := HX7.out.frz 0
        have xf1 := HX7.out.frz 1
        have xf2 := HX7.out.frz 2
        have xl := HX7.out.lt
        simp at x0 x1 x2
        have HX8 := Lib.hid (Box.set3 HX7.out (.string (pt.extract a7 pt.size)) (.int .i64 r) (.int .i64 k) (.cells #[.string (pt.extract a7 pt.size), .int .i64 r, .int .i64 k] 24))
        go_wp2_with fail
        refine ⟨⟨q + 1, iv, ov ++ pt.extract 0 a7, pt.extract a7 pt.size, rfl, rfl, by go_num, by omega, by omega, ?_, by omega, HPN.out, HX8.out, (((HB7.out.setCell (by dsimp only; exact hXw) _).setCell (by dsimp only; exact hXw) _).setCell (by dsimp only; exact hXw) _).alloc (by simp only [World.size_setCell]; exact HB7.out.size) _⟩, by simp [intOf]; omega⟩
        rw [ByteArray.append_assoc, ext_app pt a7 a71]
        exact HOT.out
      · go_simp
        have HXA := Lib.hid (HXB.out.alloc (.cells #[.string ⟨#[]⟩, .int .i64 0, .int .i64 0] 24))
        have hxy : ¬ (X = wr.heap.size) := Nat.ne_of_lt HXB.out.lt
        have hyx : ¬ (wr.heap.size = X) := fun e => hxy e.symm
        have hby : bm ≠ wr.heap.size := Nat.ne_of_lt hbw
        refine hK.out _ _ ⟨HXA.out.cell 0, HXA.out.cell 1, HXA.out.cell 2, (World.cell?_alloc_lt _ _ _ hbw).trans c0⟩ (fun hHeld => ?_)
        clear hK K
        try simp only [Act.put, List.setIfInBounds_toArray, List.set_cons_zero, List.set_cons_succ, List.getElem_toArray, List.getElem_cons_zero, List.getElem_cons_succ]
        refine wpAnyH_ready (rs := [7]) (by kernel_rfl) (by simp) ?_
        refine AllReadyH.cons rfl (fun K hK => ?_) AllReadyH.nil
        go_simp
        go_at_call 27
        refine (HM.out pt r k D HPS.out).mono ?_
        rw [HRE.out]
        rintro e w7 ⟨rfl, hb7'⟩
        have hbA : Below wr.heap.size wr ((wr.alloc (.cells #[.string ⟨#[]⟩, .int .i64 0, .int .i64 0] 24)).drew) := ((Below.refl _ _).alloc (Nat.le_refl _) _).drew
        have hb7 : Below wr.heap.size wr w7 := hbA.trans (hb7'.mono (by show wr.heap.size ≤ (wr.alloc _).heap.size; rw [World.size_alloc]; omega))
        have HY7 := Lib.hid (show Box w7 wr.heap.size #[.string ⟨#[]⟩, .int .i64 0, .int .i64 0] 24 from (show Box ((wr.alloc (.cells #[.string ⟨#[]⟩, .int .i64 0, .int .i64 0] 24)).drew) wr.heap.size _ _ from Box.new wr _ _).below hb7' (by show wr.heap.size < (wr.alloc (.cells #[.string ⟨#[]⟩, .int .i64 0, .int .i64 0] 24)).heap.size; rw [World.size_alloc]; omega))
        have HX7 := Lib.hid (HXB.out.below hb7 HXB.out.lt)
        have HB7 := Lib.hid (HB.out.trans (hb7.mono HB.out.size))
        have c7 := (kc hb7 _ _ hbw).trans c0
        have hwr := HB.out.size
        clear hb7' hb7 hbA HXA
        refine hK.out _ _ ⟨HX7.out.cell 0, HX7.out.cell 1, HX7.out.cell 2, c7⟩ (fun hHeld => ?_)
        clear hK K
        refine wpAnyH_take (i := 8) (v := ?vfq8) rfl (by kernel_rfl) (by kernel_rfl) (by kernel_rfl) (fun _ _ _ h => h) (Or.inl ⟨by rfl, ?hyfq8⟩) (by assumption) ?restfq8
        case hyfq8 =>
          intro w hSw
          try dsimp only at hSw
          go_simp
          try with_reducible rfl
        simp only [Act.put, List.setIfInBounds_toArray, List.set_cons_zero, List.set_cons_succ, List.getElem_toArray, List.getElem_cons_zero, List.getElem_cons_succ]
        refine wpAnyH_take (i := 9) (v := ?vfq9) rfl (by kernel_rfl) (by kernel_rfl) (by kernel_rfl) (fun _ _ _ h => h) (Or.inl ⟨by rfl, ?hyfq9⟩) (by assumption) ?restfq9
        case hyfq9 =>
          intro w hSw
          try dsimp only at hSw
          go_simp
          try with_reducible rfl
        simp only [Act.put, List.setIfInBounds_toArray, List.set_cons_zero, List.set_cons_succ, List.getElem_toArray, List.getElem_cons_zero, List.getElem_cons_succ]
        refine wpAnyH_take (i := 10) (v := ?vfq10) rfl (by kernel_rfl) (by kernel_rfl) (by kernel_rfl) (fun _ _ _ h => h) (Or.inl ⟨by rfl, ?hyfq10⟩) (by assumption) ?restfq10
        case hyfq10 =>
          intro w hSw
          try dsimp only at hSw
          go_simp
          try with_reducible rfl
        simp only [Act.put, List.setIfInBounds_toArray, List.set_cons_zero, List.set_cons_succ, List.getElem_toArray, List.getElem_cons_zero, List.getElem_cons_succ]
        refine wpAnyH_take (i := 11) (v := ?vfq11) rfl (by kernel_rfl) (by kernel_rfl) (by kernel_rfl) (fun _ _ _ h => h) (Or.inl ⟨by rfl, ?hyfq11⟩) (by assumption) ?restfq11
        case hyfq11 =>
          intro w hSw
          try dsimp only at hSw
          go_simp
          try with_reducible rfl
        simp only [Act.put, List.setIfInBounds_toArray, List.set_cons_zero, List.set_cons_succ, List.getElem_toArray, List.getElem_cons_zero, List.getElem_cons_succ]
        clear x0 x1 x2 xf0 xf1 xf2 xl
        have y0 := HY7.out.cell 0
        have y1 := HY7.out.cell 1
        have y2 := HY7.out.cell 2
        have yf0 := HY7.out.frz 0
        have yf1 := HY7.out.frz 1
        have yf2 := HY7.out.frz 2
        have yl := HY7.out.lt
        simp at y0 y1 y2
        refine wpAnyH_ready (rs := [13]) (by kernel_rfl) (by simp) ?_
        refine AllReadyH.cons rfl (fun K hK => ?_) AllReadyH.nil
        go_simp
        have HX9 := Lib.hid (((HX7.out.other (a := ⟨wr.heap.size, 0, none⟩) hxy (.string (pt.extract a7 pt.size))).other (a := ⟨wr.heap.size, 1, none⟩) hxy (.int .i64 r)).other (a := ⟨wr.heap.size, 2, none⟩) hxy (.int .i64 k))
        refine hK.out _ _ ⟨HX9.out.cell 0, HX9.out.cell 1, HX9.out.cell 2, (((cell_off (fun e => hby e.symm)).trans (cell_off (fun e => hby e.symm))).trans (cell_off (fun e => hby e.symm))).trans c7⟩ (fun hHeld => ?_)
        clear hK K
        refine wpAnyH_take (i := 14) (v := ?vfq14) rfl (by kernel_rfl) (by kernel_rfl) (by kernel_rfl) (fun _ _ _ h => h) (Or.inl ⟨by rfl, ?hyfq14⟩) (by assumption) ?restfq14
        case hyfq14 =>
          intro w hSw
          try dsimp only at hSw
          go_simp
          try with_reducible rfl
        simp only [Act.put, List.setIfInBounds_toArray, List.set_cons_zero, List.set_cons_succ, List.getElem_toArray, List.getElem_cons_zero, List.getElem_cons_succ]
        refine wpAnyH_take (i := 15) (v := ?vfq15) rfl (by kernel_rfl) (by kernel_rfl) (by kernel_rfl) (fun _ _ _ h => h) (Or.inl ⟨by rfl, ?hyfq15⟩) (by assumption) ?restfq15
        case hyfq15 =>
          intro w hSw
          try dsimp only at hSw
          go_simp
          try with_reducible rfl
        simp only [Act.put, List.setIfInBounds_toArray, List.set_cons_zero, List.set_cons_succ, List.getElem_toArray, List.getElem_cons_zero, List.getElem_cons_succ]
        refine wpAnyH_done (by kernel_rfl) ?_ _
        clear hHeld c0 c7
        have x0 := HX7.out.cell 0
        have x1 := HX7.out.cell 1
        have x2 := HX7.out.cell 2
        have xf0 := HX7.out.frz 0
        have xf1 := HX7.out.frz 1
        have xf2 := HX7.out.frz 2
        have xl := HX7.out.lt
        simp at x0 x1 x2
        have HX8 := Lib.hid (by simpa using ((HX9.out.set 0 (.string (pt.extract a7 pt.size))).set 1 (.int .i64 r)).set 2 (.int .i64 k))
        go_wp2_with fail
        refine ⟨⟨q + 1, iv, ov ++ pt.extract 0 a7, pt.extract a7 pt.size, rfl, rfl, by go_num, by omega, by omega, ?_, by omega, HPN.out, HX8.out, ((((((HB7.out.setCell (by dsimp only; exact hwr) _).setCell (by dsimp only; exact hwr) _).setCell (by dsimp only; exact hwr) _).setCell (by dsimp only; exact hXw) _).setCell (by dsimp only; exact hXw) _).setCell (by dsimp only; exact hXw) _)⟩, by simp [intOf]; omega⟩
        rw [ByteArray.append_assoc, ext_app pt a7 a71]
        exact HOT.out
end
end Go.Proofs.Ytjjkkfemhfhciaa
