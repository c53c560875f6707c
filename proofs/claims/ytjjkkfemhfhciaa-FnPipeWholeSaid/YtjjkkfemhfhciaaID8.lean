/-
  The walk of FnPipeWhole.
-/
import Derived.Test.YtjjkkfemhfhciaaID3
import Derived.Laws.BytesArg
namespace Go.Proofs.Ytjjkkfemhfhciaa
open Go.RowKit

section
variable {A : Option Addr} {n c : Nat} {w : World}
theorem em_app (a : ByteArray) : (⟨#[]⟩ : ByteArray) ++ a = a := by
  apply ByteArray.ext
  rw [ByteArray.data_append]
  simp
theorem put_all {t x : ByteArray} {r k : Int} (hr : ¬ r = 0) (hk : ¬ k = 0) (hp : piB t r k = true) (hx : 0 < x.size) (hf : t.size + x.size ≤ 8) (h4 : x.size ≤ 4) : putR t r k x = ((t ++ x, r, k), (x.size : Int), 0) ∧ piB (t ++ x) r k = true := by
  have e : min (8 - t.size) x.size = x.size := by omega
  constructor
  · unfold putR putI
    rw [hp, decide_eq_false hk, if_pos (by rfl), if_neg hr, if_neg (by omega), if_neg (by omega), e, ByteArray.extract_zero_size]
  · have hr' := (pi_in hp).1
    unfold piB at hp ⊢
    simp only [Bool.and_eq_true, Bool.or_eq_true, decide_eq_true_eq] at hp ⊢
    refine ⟨?_, hp.2.1, hp.2.2.1, Or.inl (by omega)⟩
    rw [ByteArray.size_append]
    exact hf
theorem tak_first {a b : ByteArray} {r k : Int} (hr : ¬ r = 0) (hp : piB (a ++ b) r k = true) (ha : 0 < a.size) : takR (a ++ b) r k (a.size : Int) = ((b, r, k), a, 0) ∧ piB b r k = true := by
  have hs : (a ++ b).size = a.size + b.size := ByteArray.size_append
  have e1 : (a ++ b).extract 0 a.size = a := ByteArray.extract_append_eq_left rfl
  have e2 : (a ++ b).extract a.size (a ++ b).size = b := by
    rw [hs]
    exact ByteArray.extract_append_eq_right rfl rfl
  have hc := pi_cut hp a.size
  rw [e2] at hc
  refine ⟨?_, hc⟩
  unfold takR takI
  rw [hp, decide_eq_false hr, decide_eq_true (show (0 : Int) ≤ a.size by omega), if_pos (by rfl), if_neg (by omega), if_neg (by omega), Int.toNat_natCast, Nat.min_eq_left (by omega), e1, e2]
theorem bytes_str (w : World) {A : Option Addr} {n c : Nat} (L : Nat) (hL : L ≤ n) (hc : Code w A n) : ∃ s : ByteArray, s.size = L ∧ (convert 22 9 (.slice A L c)).run Try.prog w = .ok (.string s) w := by
  rcases Nat.eq_zero_or_pos L with rfl | h0
  · refine ⟨ByteArray.empty, rfl, ?_⟩
    rw [run_convert_bytes_string w 22 9 5 _ 0 c Try.underlying22 Try.underlying5 Try.underlying9]
    cases A <;> simp [Conv.bytesToString, loadCells]
    all_goals rfl
  · obtain ⟨b, o, rfl, _, hcell⟩ := hc.2 (by omega)
    have h : ∀ k, ∃ u : Int, k < L → w.cell? ⟨b, o + k, none⟩ = some (.int .u8 u) := fun k => by
      by_cases hk : k < L
      · obtain ⟨u, hu, _⟩ := hcell k (by omega)
        exact ⟨u, fun _ => hu⟩
      · exact ⟨0, fun h => absurd h hk⟩
    obtain ⟨f, hf⟩ := Classical.axiomOfChoice h
    refine ⟨strOfNums ((List.range L).map f), by rw [strOfNums_size]; simp, ?_⟩
    exact run_convert_bytes_arg (P := Try.prog) w 22 5 Try.underlying22 Try.underlying5 b o L c ((List.range L).map f) (by simp) (fun i hi => by rw [hf i hi]; simp [List.getD_eq_getElem?_getD, List.getElem?_range hi]) 9 Try.underlying9
set_option maxHeartbeats 2000000 in
set_option maxRecDepth 100000 in
theorem dPipeWhole_walk (hm : ITak 27) (ho : IOk 19) (hu : IPut 24) {A2 : Option Addr} {n2 c2 : Nat} (hc : Code w A n) (hcap : n ≤ c) (hcap2 : c ≤ maxLen) (hd : Code w A2 n2) (hdcap : n2 ≤ c2) (hdcap2 : c2 ≤ maxLen) : Calls Try.prog 11 #[.slice A n c, .slice A2 n2 c2] w fun e w' => e = .returned (.bool true) ∧ Below w.heap.size w w' := by
  have hn := hc.1
  unfold maxLen at hn
  have hn2 := hd.1
  unfold maxLen at hn2
  have HCODE := Lib.hid hc
  have HMORE := Lib.hid hd
  have HCAP2 := Lib.hid hdcap2
  clear hc hd
  unfold maxLen at hdcap2
  by_cases hbig : (1048576 : Int) < n
  · go_enter Try.func11, Try.ntmps11
    go_wp2_with fail
    go_ret
    exact ⟨rfl, Below.refl _ _⟩
  by_cases hbig2 : (1048576 : Int) < n2
  · go_enter Try.func11, Try.ntmps11
    go_wp2_with fail
    go_ret
    exact ⟨rfl, Below.refl _ _⟩
  have HM := Lib.hid hm
  clear hm
  have HO := Lib.hid ho
  clear ho
  have HU := Lib.hid hu
  clear hu
  have HW0 := Lib.hid (Below.refl w.heap.size w)
  go_enter Try.func11, Try.ntmps11
  have HA0 := Lib.hid (show Below w.heap.size w w from (Below.refl _ _))
  go_wp2_with fail
  refine (dDrawPipePut_any HCODE.out hcap hcap2).mono ?_
  rintro e w1 ⟨t, r, k, x, rfl, ts, ⟨ra, rb⟩, ⟨ka, kb⟩, xs, hb1⟩
  have HC1 := Lib.hid (HA0.out.trans (hb1.mono HA0.out.size))
  have HW1 := Lib.hid (HW0.out.trans (HC1.out.mono HW0.out.size))
  clear hb1
  have HT := Lib.hid (show t.size ≤ maxLen by unfold maxLen; omega)
  obtain ⟨L, hL⟩ : ∃ L : Nat, n2 % 3 = L := ⟨_, rfl⟩
  have hL1 : L ≤ n2 := by omega
  have hL2 : L ≤ 2 := by omega
  have hLm : (n2 : Int) % 3 = (L : Int) := by omega
  have hL0 : (0 : Int) ≤ (L : Int) := by omega
  have hLc : (L : Int) ≤ (c2 : Int) := by omega
  have hLn : (L : Int) ≤ (n2 : Int) := by omega
  obtain ⟨s, hs, hcv⟩ := bytes_str (c := c2) (w1.alloc (.cells #[.string t, .int .i64 r, .int .i64 k] 24)) L hL1 ((HMORE.out.below HW1.out).below ((Below.refl _ _).alloc (Nat.le_refl _) _))
  have HSS := Lib.hid hs
  have q3 : (9223372036854775807 < (⟨#[97, 98]⟩ : ByteArray).size + s.size) = False := eq_false (by show ¬ 9223372036854775807 < 2 + s.size; omega)
  have q4 : (9223372036854775807 < 2 + s.size) = False := eq_false (by omega)
  clear hs hL
  by_cases hp : piB t r k = true
  case neg =>
    have hp' : piB t r k = false := by simpa using hp
    have HPP := Lib.hid hp'
    clear hp hp'
    have HA1 := Lib.hid (show Below w1.heap.size w1 (w1.alloc (.cells #[.string t, .int .i64 r, .int .i64 k] 24)) from ((Below.refl _ _).alloc (Nat.le_refl _) _))
    go_wp2_with fail
    generalize hAe : ((⟨#[97, 98]⟩ : ByteArray) ++ s) = a9
    have ha1 : 2 ≤ a9.size := by rw [← hAe, ByteArray.size_append]; exact Nat.le_add_right 2 _
    have ha2 : a9.size ≤ 4 := by
      rw [← hAe, ByteArray.size_append, HSS.out]
      show 2 + L ≤ 4
      omega
    clear hAe
    refine (HO.out t r k HT.out).mono ?_
    rw [HPP.out]
    rintro e w2 ⟨rfl, hb2⟩
    have HC2 := Lib.hid (HA1.out.trans (hb2.mono HA1.out.size))
    have HW2 := Lib.hid (HW1.out.trans (HC2.out.mono HW1.out.size))
    have P_2 := Lib.hid ((Box.new w1 #[.string t, .int .i64 r, .int .i64 k] 24).below hb2 (by simp only [World.size_alloc]; omega))
    clear hb2
    have HA2 := Lib.hid (show Below w2.heap.size w2 w2 from (Below.refl _ _))
    have p_c0 := P_2.out.cell 0
    have p_c1 := P_2.out.cell 1
    have p_c2 := P_2.out.cell 2
    simp at p_c0 p_c1 p_c2
    have p_l := P_2.out.lt
    go_wp2_with fail
    refine (pipeOk_any t r k HT.out).mono ?_
    rw [HPP.out]
    rintro e w3 ⟨rfl, hb3⟩
    clear p_c0 p_c1 p_c2 p_l
    have HC3 := Lib.hid (HA2.out.trans (hb3.mono HA2.out.size))
    have HW3 := Lib.hid (HW2.out.trans (HC3.out.mono HW2.out.size))
    have P_3 := Lib.hid (P_2.out.below HC3.out P_2.out.lt)
    clear hb3
    have HA3 := Lib.hid (show Below w3.heap.size w3 w3 from (Below.refl _ _))
    have p_c0 := P_3.out.cell 0
    have p_c1 := P_3.out.cell 1
    have p_c2 := P_3.out.cell 2
    simp at p_c0 p_c1 p_c2
    have p_l := P_3.out.lt
    go_wp2_with fail
    refine (pipeOk_any t r k HT.out).mono ?_
    rw [HPP.out]
    rintro e w4 ⟨rfl, hb4⟩
    clear p_c0 p_c1 p_c2 p_l
    have HC4 := Lib.hid (HA3.out.trans (hb4.mono HA3.out.size))
    have HW4 := Lib.hid (HW3.out.trans (HC4.out.mono HW3.out.size))
    have P_4 := Lib.hid (P_3.out.below HC4.out P_3.out.lt)
    clear hb4
    have HA4 := Lib.hid (show Below w4.heap.size w4 w4 from (Below.refl _ _))
    have p_c0 := P_4.out.cell 0
    have p_c1 := P_4.out.cell 1
    have p_c2 := P_4.out.cell 2
    simp at p_c0 p_c1 p_c2
    have p_l := P_4.out.lt
    go_wp2_with fail
    go_ret
    exact ⟨rfl, HW4.out.trans (HA4.out.mono HW4.out.size)⟩
  have HPP := Lib.hid hp
  by_cases h0 : r = 0
  case pos =>
    have e0 : (r == 0) = true := by rw [beq_iff_eq]; exact h0
    clear h0 hp
    have HA1 := Lib.hid (show Below w1.heap.size w1 (w1.alloc (.cells #[.string t, .int .i64 r, .int .i64 k] 24)) from ((Below.refl _ _).alloc (Nat.le_refl _) _))
    go_wp2_with fail
    generalize hAe : ((⟨#[97, 98]⟩ : ByteArray) ++ s) = a9
    have ha1 : 2 ≤ a9.size := by rw [← hAe, ByteArray.size_append]; exact Nat.le_add_right 2 _
    have ha2 : a9.size ≤ 4 := by
      rw [← hAe, ByteArray.size_append, HSS.out]
      show 2 + L ≤ 4
      omega
    clear hAe
    refine (HO.out t r k HT.out).mono ?_
    rw [HPP.out]
    rintro e w2 ⟨rfl, hb2⟩
    have HC2 := Lib.hid (HA1.out.trans (hb2.mono HA1.out.size))
    have HW2 := Lib.hid (HW1.out.trans (HC2.out.mono HW1.out.size))
    have P_2 := Lib.hid ((Box.new w1 #[.string t, .int .i64 r, .int .i64 k] 24).below hb2 (by simp only [World.size_alloc]; omega))
    clear hb2
    have HA2 := Lib.hid (show Below w2.heap.size w2 w2 from (Below.refl _ _))
    have p_c0 := P_2.out.cell 0
    have p_c1 := P_2.out.cell 1
    have p_c2 := P_2.out.cell 2
    simp at p_c0 p_c1 p_c2
    have p_l := P_2.out.lt
    go_wp2_with fail
    refine (pipeOk_any t r k HT.out).mono ?_
    rw [HPP.out]
    rintro e w3 ⟨rfl, hb3⟩
    clear p_c0 p_c1 p_c2 p_l
    have HC3 := Lib.hid (HA2.out.trans (hb3.mono HA2.out.size))
    have HW3 := Lib.hid (HW2.out.trans (HC3.out.mono HW2.out.size))
    have P_3 := Lib.hid (P_2.out.below HC3.out P_2.out.lt)
    clear hb3
    have HA3 := Lib.hid (show Below w3.heap.size w3 w3 from (Below.refl _ _))
    have p_c0 := P_3.out.cell 0
    have p_c1 := P_3.out.cell 1
    have p_c2 := P_3.out.cell 2
    simp at p_c0 p_c1 p_c2
    have p_l := P_3.out.lt
    go_wp2_with fail
    refine (pipeOk_any t r k HT.out).mono ?_
    rw [HPP.out]
    rintro e w4 ⟨rfl, hb4⟩
    clear p_c0 p_c1 p_c2 p_l
    have HC4 := Lib.hid (HA3.out.trans (hb4.mono HA3.out.size))
    have HW4 := Lib.hid (HW3.out.trans (HC4.out.mono HW3.out.size))
    have P_4 := Lib.hid (P_3.out.below HC4.out P_3.out.lt)
    clear hb4
    have HA4 := Lib.hid (show Below w4.heap.size w4 w4 from (Below.refl _ _))
    have p_c0 := P_4.out.cell 0
    have p_c1 := P_4.out.cell 1
    have p_c2 := P_4.out.cell 2
    simp at p_c0 p_c1 p_c2
    have p_l := P_4.out.lt
    go_wp2_with fail
    go_ret
    exact ⟨rfl, HW4.out.trans (HA4.out.mono HW4.out.size)⟩
  have e0 : (r == 0) = false := by rw [beq_eq_false_iff_ne]; exact h0
  by_cases h1 : k = 0
  case pos =>
    have e1 : (k == 0) = true := by rw [beq_iff_eq]; exact h1
    clear h0 h1 hp
    have HA1 := Lib.hid (show Below w1.heap.size w1 (w1.alloc (.cells #[.string t, .int .i64 r, .int .i64 k] 24)) from ((Below.refl _ _).alloc (Nat.le_refl _) _))
    go_wp2_with fail
    generalize hAe : ((⟨#[97, 98]⟩ : ByteArray) ++ s) = a9
    have ha1 : 2 ≤ a9.size := by rw [← hAe, ByteArray.size_append]; exact Nat.le_add_right 2 _
    have ha2 : a9.size ≤ 4 := by
      rw [← hAe, ByteArray.size_append, HSS.out]
      show 2 + L ≤ 4
      omega
    clear hAe
    refine (HO.out t r k HT.out).mono ?_
    rw [HPP.out]
    rintro e w2 ⟨rfl, hb2⟩
    have HC2 := Lib.hid (HA1.out.trans (hb2.mono HA1.out.size))
    have HW2 := Lib.hid (HW1.out.trans (HC2.out.mono HW1.out.size))
    have P_2 := Lib.hid ((Box.new w1 #[.string t, .int .i64 r, .int .i64 k] 24).below hb2 (by simp only [World.size_alloc]; omega))
    clear hb2
    have HA2 := Lib.hid (show Below w2.heap.size w2 w2 from (Below.refl _ _))
    have p_c0 := P_2.out.cell 0
    have p_c1 := P_2.out.cell 1
    have p_c2 := P_2.out.cell 2
    simp at p_c0 p_c1 p_c2
    have p_l := P_2.out.lt
    go_wp2_with fail
    refine (pipeOk_any t r k HT.out).mono ?_
    rw [HPP.out]
    rintro e w3 ⟨rfl, hb3⟩
    clear p_c0 p_c1 p_c2 p_l
    have HC3 := Lib.hid (HA2.out.trans (hb3.mono HA2.out.size))
    have HW3 := Lib.hid (HW2.out.trans (HC3.out.mono HW2.out.size))
    have P_3 := Lib.hid (P_2.out.below HC3.out P_2.out.lt)
    clear hb3
    have HA3 := Lib.hid (show Below w3.heap.size w3 w3 from (Below.refl _ _))
    have p_c0 := P_3.out.cell 0
    have p_c1 := P_3.out.cell 1
    have p_c2 := P_3.out.cell 2
    simp at p_c0 p_c1 p_c2
    have p_l := P_3.out.lt
    go_wp2_with fail
    refine (pipeOk_any t r k HT.out).mono ?_
    rw [HPP.out]
    rintro e w4 ⟨rfl, hb4⟩
    clear p_c0 p_c1 p_c2 p_l
    have HC4 := Lib.hid (HA3.out.trans (hb4.mono HA3.out.size))
    have HW4 := Lib.hid (HW3.out.trans (HC4.out.mono HW3.out.size))
    have P_4 := Lib.hid (P_3.out.below HC4.out P_3.out.lt)
    clear hb4
    have HA4 := Lib.hid (show Below w4.heap.size w4 w4 from (Below.refl _ _))
    have p_c0 := P_4.out.cell 0
    have p_c1 := P_4.out.cell 1
    have p_c2 := P_4.out.cell 2
    simp at p_c0 p_c1 p_c2
    have p_l := P_4.out.lt
    go_wp2_with fail
    go_ret
    exact ⟨rfl, HW4.out.trans (HA4.out.mono HW4.out.size)⟩
  have e1 : (k == 0) = false := by rw [beq_eq_false_iff_ne]; exact h1
  by_cases h2 : t.size = 0
  case neg =>
    have e2 : (t.toList != ([] : List UInt8)) = true := by rw [bne, emp_list, decide_eq_false h2]; rfl
    have e3 : (t.toList == ([] : List UInt8)) = false := by rw [emp_list, decide_eq_false h2]
    have e4 : ¬ t.toList = [] := by simpa using e3
    clear h0 h1 h2 hp
    have HA1 := Lib.hid (show Below w1.heap.size w1 (w1.alloc (.cells #[.string t, .int .i64 r, .int .i64 k] 24)) from ((Below.refl _ _).alloc (Nat.le_refl _) _))
    go_wp2_with fail
    generalize hAe : ((⟨#[97, 98]⟩ : ByteArray) ++ s) = a9
    have ha1 : 2 ≤ a9.size := by rw [← hAe, ByteArray.size_append]; exact Nat.le_add_right 2 _
    have ha2 : a9.size ≤ 4 := by
      rw [← hAe, ByteArray.size_append, HSS.out]
      show 2 + L ≤ 4
      omega
    clear hAe
    refine (HO.out t r k HT.out).mono ?_
    rw [HPP.out]
    rintro e w2 ⟨rfl, hb2⟩
    have HC2 := Lib.hid (HA1.out.trans (hb2.mono HA1.out.size))
    have HW2 := Lib.hid (HW1.out.trans (HC2.out.mono HW1.out.size))
    have P_2 := Lib.hid ((Box.new w1 #[.string t, .int .i64 r, .int .i64 k] 24).below hb2 (by simp only [World.size_alloc]; omega))
    clear hb2
    have HA2 := Lib.hid (show Below w2.heap.size w2 w2 from (Below.refl _ _))
    have p_c0 := P_2.out.cell 0
    have p_c1 := P_2.out.cell 1
    have p_c2 := P_2.out.cell 2
    simp at p_c0 p_c1 p_c2
    have p_l := P_2.out.lt
    go_wp2_with fail
    refine (pipeOk_any t r k HT.out).mono ?_
    rw [HPP.out]
    rintro e w3 ⟨rfl, hb3⟩
    clear p_c0 p_c1 p_c2 p_l
    have HC3 := Lib.hid (HA2.out.trans (hb3.mono HA2.out.size))
    have HW3 := Lib.hid (HW2.out.trans (HC3.out.mono HW2.out.size))
    have P_3 := Lib.hid (P_2.out.below HC3.out P_2.out.lt)
    clear hb3
    have HA3 := Lib.hid (show Below w3.heap.size w3 w3 from (Below.refl _ _))
    have p_c0 := P_3.out.cell 0
    have p_c1 := P_3.out.cell 1
    have p_c2 := P_3.out.cell 2
    simp at p_c0 p_c1 p_c2
    have p_l := P_3.out.lt
    go_wp2_with fail
    refine (pipeOk_any t r k HT.out).mono ?_
    rw [HPP.out]
    rintro e w4 ⟨rfl, hb4⟩
    clear p_c0 p_c1 p_c2 p_l
    have HC4 := Lib.hid (HA3.out.trans (hb4.mono HA3.out.size))
    have HW4 := Lib.hid (HW3.out.trans (HC4.out.mono HW3.out.size))
    have P_4 := Lib.hid (P_3.out.below HC4.out P_3.out.lt)
    clear hb4
    have HA4 := Lib.hid (show Below w4.heap.size w4 w4 from (Below.refl _ _))
    have p_c0 := P_4.out.cell 0
    have p_c1 := P_4.out.cell 1
    have p_c2 := P_4.out.cell 2
    simp at p_c0 p_c1 p_c2
    have p_l := P_4.out.lt
    go_wp2_with fail
    go_ret
    exact ⟨rfl, HW4.out.trans (HA4.out.mono HW4.out.size)⟩
  have e2 : (t.toList != ([] : List UInt8)) = false := by rw [bne, emp_list, decide_eq_true h2]; rfl
  have e3 : (t.toList == ([] : List UInt8)) = true := by rw [emp_list, decide_eq_true h2]
  have HF := Lib.hid (fun (a : ByteArray) (h1' : 2 ≤ a.size) (h2' : a.size ≤ 4) => show putR t r k a = ((a, r, k), (a.size : Int), 0) ∧ piB a r k = true by
    have h := put_all h0 h1 hp (x := a) (by omega) (by omega) h2'
    rw [emp_of h2, em_app] at h
    rw [emp_of h2]
    exact h)
  have HF2 := Lib.hid (fun (a : ByteArray) (h1' : 2 ≤ a.size) (h2' : a.size ≤ 4) (hpa : piB a r k = true) => put_all (x := ⟨#[120, 121, 122]⟩) h0 h1 hpa (by decide) (by have : (⟨#[120, 121, 122]⟩ : ByteArray).size = 3 := rfl; omega) (by decide))
  have HF3 := Lib.hid (fun (a b : ByteArray) (h1' : 0 < a.size) (hpa : piB (a ++ b) r k = true) => tak_first (r := r) (k := k) h0 hpa h1')
  clear h0 h1 h2 hp
  have HA1 := Lib.hid (show Below w1.heap.size w1 (w1.alloc (.cells #[.string t, .int .i64 r, .int .i64 k] 24)) from ((Below.refl _ _).alloc (Nat.le_refl _) _))
  go_wp2_with fail
  generalize hAe : ((⟨#[97, 98]⟩ : ByteArray) ++ s) = a9
  have ha1 : 2 ≤ a9.size := by rw [← hAe, ByteArray.size_append]; exact Nat.le_add_right 2 _
  have ha2 : a9.size ≤ 4 := by
    rw [← hAe, ByteArray.size_append, HSS.out]
    show 2 + L ≤ 4
    omega
  clear hAe
  refine (HO.out t r k HT.out).mono ?_
  rw [HPP.out]
  rintro e w2 ⟨rfl, hb2⟩
  have HC2 := Lib.hid (HA1.out.trans (hb2.mono HA1.out.size))
  have HW2 := Lib.hid (HW1.out.trans (HC2.out.mono HW1.out.size))
  have P_2 := Lib.hid ((Box.new w1 #[.string t, .int .i64 r, .int .i64 k] 24).below hb2 (by simp only [World.size_alloc]; omega))
  clear hb2
  have HA2 := Lib.hid (show Below w2.heap.size w2 w2 from (Below.refl _ _))
  have p_c0 := P_2.out.cell 0
  have p_c1 := P_2.out.cell 1
  have p_c2 := P_2.out.cell 2
  simp at p_c0 p_c1 p_c2
  have p_l := P_2.out.lt
  go_wp2_with fail
  refine (pipeOk_any t r k HT.out).mono ?_
  rw [HPP.out]
  rintro e w3 ⟨rfl, hb3⟩
  clear p_c0 p_c1 p_c2 p_l
  have HC3 := Lib.hid (HA2.out.trans (hb3.mono HA2.out.size))
  have HW3 := Lib.hid (HW2.out.trans (HC3.out.mono HW2.out.size))
  have P_3 := Lib.hid (P_2.out.below HC3.out P_2.out.lt)
  clear hb3
  obtain ⟨b1, b2⟩ := HF.out a9 ha1 ha2
  obtain ⟨b3, b4⟩ := HF2.out a9 ha1 ha2 b2
  obtain ⟨b5, b6⟩ := HF3.out a9 ⟨#[120, 121, 122]⟩ (by omega) b4
  obtain ⟨b7, b8⟩ := HF3.out ⟨#[120, 121, 122]⟩ ⟨#[]⟩ (by decide) b6
  have G1 := Lib.hid b1
  have G2 := Lib.hid b3
  have G3 := Lib.hid b5
  have G4 := Lib.hid (show takR ⟨#[120, 121, 122]⟩ r k 3 = ((⟨#[]⟩, r, k), ⟨#[120, 121, 122]⟩, 0) from b7)
  have S1 := Lib.hid (show a9.size ≤ maxLen by unfold maxLen; omega)
  have S2 := Lib.hid (show (⟨#[120, 121, 122]⟩ : ByteArray).size ≤ maxLen by decide)
  have S3 := Lib.hid (show (a9 ++ ⟨#[120, 121, 122]⟩).size ≤ maxLen by rw [ByteArray.size_append]; show a9.size + 3 ≤ maxLen; unfold maxLen; omega)
  generalize a9 ++ ⟨#[120, 121, 122]⟩ = y9 at G2 G3 S3
  clear b1 b2 b3 b4 b5 b6 b7 b8 HF HF2 HF3
  have HA3 := Lib.hid (show Below w3.heap.size w3 w3 from (Below.refl _ _))
  have p_c0 := P_3.out.cell 0
  have p_c1 := P_3.out.cell 1
  have p_c2 := P_3.out.cell 2
  simp at p_c0 p_c1 p_c2
  have p_l := P_3.out.lt
  go_wp2_with fail
  refine (HU.out t r k a9 HT.out S1.out).mono ?_
  rw [G1.out]
  rintro e w4 ⟨rfl, hb4⟩
  clear p_c0 p_c1 p_c2 p_l
  have HC4 := Lib.hid (HA3.out.trans (hb4.mono HA3.out.size))
  have HW4 := Lib.hid (HW3.out.trans (HC4.out.mono HW3.out.size))
  have P_4 := Lib.hid (P_3.out.below HC4.out P_3.out.lt)
  clear hb4
  have HA4 := Lib.hid (show Below w4.heap.size w4 (w4.alloc (.cells #[.string a9, .int .i64 r, .int .i64 k] 24)) from ((Below.refl _ _).alloc (Nat.le_refl _) _))
  have p_c0 := P_4.out.cell 0
  have p_c1 := P_4.out.cell 1
  have p_c2 := P_4.out.cell 2
  simp at p_c0 p_c1 p_c2
  have p_l := P_4.out.lt
  go_wp2_with fail
  refine (HU.out a9 r k ⟨#[120, 121, 122]⟩ S1.out S2.out).mono ?_
  rw [G2.out]
  rintro e w5 ⟨rfl, hb5⟩
  clear p_c0 p_c1 p_c2 p_l
  have HC5 := Lib.hid (HA4.out.trans (hb5.mono HA4.out.size))
  have HW5 := Lib.hid (HW4.out.trans (HC5.out.mono HW4.out.size))
  have P_5 := Lib.hid (P_4.out.below HC5.out P_4.out.lt)
  have X_5 := Lib.hid ((Box.new w4 #[.string a9, .int .i64 r, .int .i64 k] 24).below hb5 (by simp only [World.size_alloc]; omega))
  clear hb5
  have HA5 := Lib.hid (show Below w5.heap.size w5 (w5.alloc (.cells #[.string y9, .int .i64 r, .int .i64 k] 24)) from ((Below.refl _ _).alloc (Nat.le_refl _) _))
  have p_c0 := P_5.out.cell 0
  have p_c1 := P_5.out.cell 1
  have p_c2 := P_5.out.cell 2
  have x_c0 := X_5.out.cell 0
  have x_c1 := X_5.out.cell 1
  have x_c2 := X_5.out.cell 2
  simp at p_c0 p_c1 p_c2 x_c0 x_c1 x_c2
  have p_l := P_5.out.lt
  have x_l := X_5.out.lt
  go_wp2_with fail
  refine (HM.out y9 r k (a9.size : Int) S3.out).mono ?_
  rw [G3.out]
  rintro e w6 ⟨rfl, hb6⟩
  clear p_c0 p_c1 p_c2 x_c0 x_c1 x_c2 p_l x_l
  have HC6 := Lib.hid (HA5.out.trans (hb6.mono HA5.out.size))
  have HW6 := Lib.hid (HW5.out.trans (HC6.out.mono HW5.out.size))
  have P_6 := Lib.hid (P_5.out.below HC6.out P_5.out.lt)
  have X_6 := Lib.hid (X_5.out.below HC6.out X_5.out.lt)
  have Y_6 := Lib.hid ((Box.new w5 #[.string y9, .int .i64 r, .int .i64 k] 24).below hb6 (by simp only [World.size_alloc]; omega))
  clear hb6
  have HA6 := Lib.hid (show Below w6.heap.size w6 (w6.alloc (.cells #[.string ⟨#[120, 121, 122]⟩, .int .i64 r, .int .i64 k] 24)) from ((Below.refl _ _).alloc (Nat.le_refl _) _))
  have p_c0 := P_6.out.cell 0
  have p_c1 := P_6.out.cell 1
  have p_c2 := P_6.out.cell 2
  have x_c0 := X_6.out.cell 0
  have x_c1 := X_6.out.cell 1
  have x_c2 := X_6.out.cell 2
  have y_c0 := Y_6.out.cell 0
  have y_c1 := Y_6.out.cell 1
  have y_c2 := Y_6.out.cell 2
  simp at p_c0 p_c1 p_c2 x_c0 x_c1 x_c2 y_c0 y_c1 y_c2
  have p_l := P_6.out.lt
  have x_l := X_6.out.lt
  have y_l := Y_6.out.lt
  go_wp2_with fail
  refine (HM.out ⟨#[120, 121, 122]⟩ r k 3 S2.out).mono ?_
  rw [G4.out]
  rintro e w7 ⟨rfl, hb7⟩
  clear p_c0 p_c1 p_c2 x_c0 x_c1 x_c2 y_c0 y_c1 y_c2 p_l x_l y_l
  have HC7 := Lib.hid (HA6.out.trans (hb7.mono HA6.out.size))
  have HW7 := Lib.hid (HW6.out.trans (HC7.out.mono HW6.out.size))
  have P_7 := Lib.hid (P_6.out.below HC7.out P_6.out.lt)
  have X_7 := Lib.hid (X_6.out.below HC7.out X_6.out.lt)
  have Y_7 := Lib.hid (Y_6.out.below HC7.out Y_6.out.lt)
  have Z_7 := Lib.hid ((Box.new w6 #[.string ⟨#[120, 121, 122]⟩, .int .i64 r, .int .i64 k] 24).below hb7 (by simp only [World.size_alloc]; omega))
  clear hb7
  have HA7 := Lib.hid (show Below w7.heap.size w7 (w7.alloc (.cells #[.string ⟨#[]⟩, .int .i64 r, .int .i64 k] 24)) from ((Below.refl _ _).alloc (Nat.le_refl _) _))
  have p_c0 := P_7.out.cell 0
  have p_c1 := P_7.out.cell 1
  have p_c2 := P_7.out.cell 2
  have x_c0 := X_7.out.cell 0
  have x_c1 := X_7.out.cell 1
  have x_c2 := X_7.out.cell 2
  have y_c0 := Y_7.out.cell 0
  have y_c1 := Y_7.out.cell 1
  have y_c2 := Y_7.out.cell 2
  have z_c0 := Z_7.out.cell 0
  have z_c1 := Z_7.out.cell 1
  have z_c2 := Z_7.out.cell 2
  simp at p_c0 p_c1 p_c2 x_c0 x_c1 x_c2 y_c0 y_c1 y_c2 z_c0 z_c1 z_c2
  have p_l := P_7.out.lt
  have x_l := X_7.out.lt
  have y_l := Y_7.out.lt
  have z_l := Z_7.out.lt
  go_wp2_with fail
  go_ret
  exact ⟨rfl, HW7.out.trans (HA7.out.mono HW7.out.size)⟩
end
end Go.Proofs.Ytjjkkfemhfhciaa
